package growth_test

import (
	"math"
	"math/rand"
	"slices"
	"testing"

	"greenhew/api"
	"greenhew/growth"
)

func shootsFrom(low, high int) api.Sample {
	return api.Sample{Kind: api.SampleShoots, Span: span(low, high)}
}

func heightFrom(low, high int) api.Sample {
	return api.Sample{Kind: api.SampleHeight, Span: span(low, high)}
}

func girthFrom(low, high int) api.Sample {
	return api.Sample{Kind: api.SampleGirth, Span: span(low, high)}
}

// everywhere is the box of all stands of an age.
func everywhere(age int) api.Box { return box(age, span(0, 300), span(0, 40000), span(0, 3000)) }

func TestNarrow(t *testing.T) {
	b := chapterBox()
	for _, c := range []struct {
		l    []api.Sample
		want api.Box
	}{
		{nil, b},
		{[]api.Sample{}, b},
		{[]api.Sample{heightFrom(900, 1100)}, box(1, span(20, 30), span(900, 1100), span(46, 69))},
		{[]api.Sample{shootsFrom(0, 20)}, box(1, span(20, 20), span(500, 1500), span(46, 69))},
		{[]api.Sample{girthFrom(69, 80)}, box(1, span(20, 30), span(500, 1500), span(69, 69))},
		{[]api.Sample{heightFrom(math.MinInt, math.MaxInt), girthFrom(-5, 50), shootsFrom(25, 301)}, box(1, span(25, 30), span(500, 1500), span(46, 50))},
		{[]api.Sample{heightFrom(900, 1100), heightFrom(1000, 1200), heightFrom(0, 1050)}, box(1, span(20, 30), span(1000, 1050), span(46, 69))},
		{slices.Repeat([]api.Sample{heightFrom(501, 501)}, 50), box(1, span(20, 30), span(501, 501), span(46, 69))},
	} {
		if got, e := growth.Narrow(b, c.l...); e != api.OK || got != c.want {
			t.Error(c.l, got, e)
		}
	}
	for _, l := range [][]api.Sample{
		{girthFrom(70, 80)}, {girthFrom(0, 45)}, {shootsFrom(31, 40)}, {shootsFrom(0, 19)}, {heightFrom(1501, 1501)}, {heightFrom(-1, 499)},
		{heightFrom(900, 1000), heightFrom(1001, 1100)}, {heightFrom(math.MinInt, -1)}, {girthFrom(70, 80), girthFrom(46, 69)},
	} {
		if got, e := growth.Narrow(b, l...); e != api.ErrNone || got != (api.Box{}) {
			t.Error(l, got, e)
		}
	}
}

func TestSamplesThatAreNone(t *testing.T) {
	b := chapterBox()
	none := girthFrom(70, 80)
	for _, bad := range []api.Sample{{}, {Kind: 4}, {Kind: -1}, {Kind: math.MaxInt}, shootsFrom(1, 0), heightFrom(0, math.MinInt), girthFrom(math.MaxInt, math.MinInt)} {
		for _, l := range [][]api.Sample{{bad}, {none, bad}, {bad, none}} {
			if got, e := growth.Narrow(b, l...); e != api.ErrArg || got != (api.Box{}) {
				t.Error(l, got, e)
			}
			for _, samples := range [][][]api.Sample{{l, nil}, {nil, l}} {
				if h, e := growth.Smooth(hazel(), b, []api.Season{chapterSeason()}, samples); e != api.ErrArg || len(h) != 0 {
					t.Error(samples, h, e)
				}
			}
		}
	}
	long := slices.Repeat([]api.Sample{{Kind: 4}}, 51)
	for _, b := range []api.Box{b, {Low: b.High, High: b.Low}} {
		if got, e := growth.Narrow(b, long...); e != api.ErrLong || got != (api.Box{}) {
			t.Error(got, e)
		}
	}
}

func TestNarrowKeepsWhatIsTrue(t *testing.T) {
	r := rand.New(rand.NewSource(26))
	for range 1000 {
		b := randomBox(r, hazel(), 5)
		l := trueSamples(r, randomInside(r, randomBox(r, hazel(), 5)))
		if r.Intn(2) == 0 {
			l = trueSamples(r, randomInside(r, b))
		}
		var left []api.Stand
		for _, x := range allInside(b) {
			if allTrue(l, x) {
				left = append(left, x)
			}
		}
		got, e := growth.Narrow(b, l...)
		switch {
		case len(left) == 0 && (e != api.ErrNone || got != api.Box{}):
			t.Fatal(b, l, got, e)
		case len(left) > 0 && (e != api.OK || got != hull(left)):
			t.Fatal(b, l, got, e, hull(left))
		}
	}
}

// allTrue reports whether all samples are true of a stand.
func allTrue(l []api.Sample, x api.Stand) bool {
	for _, m := range l {
		n := [...]int{0, x.Shoots, x.Height, x.Girth}[m.Kind]
		if n < m.Span.Low || n > m.Span.High {
			return false
		}
	}
	return true
}

// plain returns a species of which shoots get 100 higher in a usual year, and all of them 60 thicker together; from 150 on, there are at most 20.
func plain() api.Species {
	return api.Species{Rise: []int{100}, Thick: []int{60}, Top: 1000, Stout: 1000, Ladder: []api.Rung{{Height: 150, Shoots: 20}}, Sprouts: []api.Span{{Low: 2, High: 9}}}
}

func TestBackOfTheChapter(t *testing.T) {
	before := box(0, span(30, 30), span(0, 400), span(0, 0))
	after := box(1, span(0, 300), span(1700, 1800), span(0, 3000))
	if b, e := growth.Back(hazel(), before, chapterSeason(), after); e != api.OK || b != box(0, span(30, 30), span(200, 400), span(0, 0)) {
		t.Error(b, e)
	}
}

func TestBackWithoutACut(t *testing.T) {
	usual := only(sunny(100))
	start := box(3, span(10, 40), span(0, 100), span(0, 100))
	cases := []struct {
		name        string
		after, want api.Box
	}{
		{"all of it", everywhere(4), start},
		{"a part of the heights", box(4, span(0, 300), span(120, 149), span(0, 3000)), box(3, span(10, 40), span(20, 49), span(0, 100))},
		{"heights at the ends", box(4, span(0, 300), span(0, 100), span(0, 3000)), box(3, span(10, 40), span(0, 0), span(0, 100))},
		{"heights at the other end", box(4, span(0, 300), span(200, 900), span(0, 3000)), box(3, span(10, 40), span(100, 100), span(0, 100))},
		// Of 25 shoots or more some stay below the rung, of 20 or fewer all can be kept.
		{"many shoots", box(4, span(25, 35), span(0, 40000), span(0, 3000)), box(3, span(25, 40), span(0, 100), span(0, 100))},
		{"few shoots", box(4, span(11, 19), span(0, 40000), span(0, 3000)), box(3, span(11, 19), span(0, 100), span(0, 100))},
		// All shoots could be 20; what the heights come to does not matter to the shoots.
		{"each kind by itself", box(4, span(11, 20), span(0, 149), span(0, 60)), box(3, span(11, 40), span(0, 49), span(0, 18))},
		// 10 shoots get 54 thicker each, 40 of them get 42.
		{"a part of the girths", box(4, span(0, 300), span(0, 40000), span(100, 110)), box(3, span(10, 40), span(0, 100), span(46, 68))},
	}
	for _, c := range cases {
		if b, e := growth.Back(plain(), start, usual, c.after); e != api.OK || b != c.want {
			t.Error(c.name, b, e)
		}
	}
	for name, after := range map[string]api.Box{
		"the same age": everywhere(3), "a later age": everywhere(5),
		"lower": box(4, span(0, 300), span(0, 99), span(0, 3000)), "higher": box(4, span(0, 300), span(201, 40000), span(0, 3000)),
		"thinner": box(4, span(0, 300), span(0, 40000), span(0, 41)), "thicker": box(4, span(0, 300), span(0, 40000), span(155, 3000)),
		"fewer": box(4, span(0, 9), span(0, 40000), span(0, 3000)), "more": box(4, span(41, 300), span(0, 40000), span(0, 3000)),
	} {
		if b, e := growth.Back(plain(), start, usual, after); e != api.ErrNone || b != (api.Box{}) {
			t.Error(name, b, e)
		}
	}
	// The age at which all stools stay.
	if b, e := growth.Back(plain(), box(100000, span(10, 40), span(0, 100), span(0, 100)), usual, everywhere(100000)); e != api.OK || b.Low.Age != 100000 {
		t.Error(b, e)
	}
}

func TestBackOverAGap(t *testing.T) {
	s := plain()
	s.Reach = 50
	q := only(api.Weather{Light: 100, Browse: 100, Mild: 100})
	before := box(3, span(1, 1), span(40, 60), span(0, 0))
	// What was 49 high still is, what was 50 high is 150 high.
	if b, e := growth.Back(s, before, q, box(4, span(0, 300), span(50, 149), span(0, 3000))); e != api.ErrNone || b != (api.Box{}) {
		t.Error(b, e)
	}
	for _, c := range []struct{ after, want api.Span }{
		{span(49, 149), span(49, 49)}, {span(50, 150), span(50, 50)}, {span(49, 150), span(49, 50)}, {span(0, 300), span(40, 60)},
	} {
		b, e := growth.Back(s, before, q, box(4, span(0, 300), c.after, span(0, 3000)))
		if e != api.OK || b != box(3, span(1, 1), c.want, span(0, 0)) {
			t.Error(c, b, e)
		}
	}
}

func TestBackWithACut(t *testing.T) {
	q := only(sunny(100))
	q.Cut = true
	// After the cut there are 2 to 9 shoots, 100 high, with a girth of 55 to 58.
	before := box(7, span(10, 40), span(0, 100), span(0, 100))
	for name, after := range map[string]api.Box{
		"all of it": everywhere(1), "what it is": box(1, span(2, 9), span(100, 100), span(55, 58)),
		"the fewest": box(1, span(0, 2), span(100, 300), span(0, 55)), "the most": box(1, span(9, 300), span(0, 100), span(58, 3000)),
	} {
		if b, e := growth.Back(plain(), before, q, after); e != api.OK || b != before {
			t.Error(name, b, e)
		}
	}
	for name, after := range map[string]api.Box{
		"the age without a cut": everywhere(8), "no age": everywhere(0),
		"fewer": box(1, span(0, 1), span(0, 40000), span(0, 3000)), "more": box(1, span(10, 300), span(0, 40000), span(0, 3000)),
		"lower": box(1, span(0, 300), span(0, 99), span(0, 3000)), "higher": box(1, span(0, 300), span(101, 40000), span(0, 3000)),
		"thinner": box(1, span(0, 300), span(0, 40000), span(0, 54)), "thicker": box(1, span(0, 300), span(0, 40000), span(59, 3000)),
	} {
		if b, e := growth.Back(plain(), before, q, after); e != api.ErrNone || b != (api.Box{}) {
			t.Error(name, b, e)
		}
	}
}

// left returns what looking back leaves number by number, and whether anything is left.
func left(s api.Species, b api.Box, q api.Season, after api.Box) (api.Box, bool) {
	next, _ := growth.Step(s, b, q)
	goals := spans(after)
	if q.Cut {
		for i, n := range spans(next) {
			if next.Low.Age != after.Low.Age || n.High < goals[i].Low || n.Low > goals[i].High {
				return api.Box{}, false
			}
		}
		return b, true
	}
	var stays [3]api.Span
	for i, all := range spans(b) {
		var l []int
		for n := all.Low; n <= all.High; n++ {
			one := spans(b)
			one[i] = span(n, n)
			c, _ := growth.Step(s, boxOf(b.Low.Age, one), q)
			reached := spans(c)[i]
			if c.Low.Age == after.Low.Age && reached.High >= goals[i].Low && reached.Low <= goals[i].High {
				l = append(l, n)
			}
		}
		if len(l) == 0 {
			return api.Box{}, false
		}
		stays[i] = span(l[0], l[len(l)-1])
	}
	return boxOf(b.Low.Age, stays), true
}

// randomAfter returns a box that has often something in common with the step of another one.
func randomAfter(r *rand.Rand, s api.Species, b api.Box, q api.Season) api.Box {
	c, _ := growth.Step(s, b, q)
	most := [...]int{300, 40000, 3000}
	var l [3]api.Span
	for i, n := range spans(c) {
		l[i] = span(0, most[i])
		if r.Intn(3) > 0 {
			wide := 1 + n.High - n.Low
			low := min(max(0, n.Low+r.Intn(2*wide)-wide/2-r.Intn(2)), most[i])
			l[i] = span(low, min(low+r.Intn(wide), most[i]))
		}
	}
	age := c.Low.Age
	if r.Intn(20) == 0 {
		age = r.Intn(9)
	}
	return boxOf(age, l)
}

func TestBackLeavesNumberByNumber(t *testing.T) {
	r := rand.New(rand.NewSource(27))
	nothing := 0
	for range 3000 {
		s := randomSpecies(r)
		b, q := randomBox(r, s, 40), randomSeason(r, 60)
		after := randomAfter(r, s, b, q)
		want, ok := left(s, b, q, after)
		got, e := growth.Back(s, b, q, after)
		if got != want || ok != (e == api.OK) || !ok && e != api.ErrNone {
			t.Fatalf("%+v, %+v, %+v, %+v: %+v, not %+v; error %d", s, b, q, after, got, want, e)
		}
		if !ok {
			nothing++
		}
	}
	if nothing < 300 || nothing > 2700 {
		t.Error("these boxes say little:", nothing)
	}
}

func TestBackKeepsWhatIsTrue(t *testing.T) {
	r := rand.New(rand.NewSource(28))
	for range 5000 {
		s := randomSpecies(r)
		b, q := randomBox(r, s, 300), randomSeason(r, 60)
		x := randomInside(r, b)
		y := trueYear(r, s, x, q)
		after, _ := growth.Narrow(everywhere(y.Age), trueSamples(r, y)...)
		got, e := growth.Back(s, b, q, after)
		if e != api.OK || !growth.Inside(got, x) {
			t.Fatalf("%+v, %+v, %+v, %+v: %+v is not in %+v; error %d", s, b, q, after, x, got, e)
		}
	}
}

func TestAskOfTheChapter(t *testing.T) {
	b := box(4, span(10, 20), span(3000, 5000), span(150, 250))
	for _, c := range []struct {
		t    api.Tolerance
		kind api.SampleKind
		want int
	}{
		{api.Tolerance{Shoots: 2, Height: 500, Girth: 20}, api.SampleGirth, 198},
		{api.Tolerance{Shoots: 2, Height: 500, Girth: 100}, api.SampleShoots, 207},
		{api.Tolerance{Shoots: 100, Height: 500, Girth: 100}, api.SampleHeight, 214},
		{api.Tolerance{Height: 500, Girth: 20}, api.SampleShoots, 196},
		{api.Tolerance{Shoots: 100000, Height: 100000, Girth: 100000}, api.SampleShoots, 223},
		{api.Tolerance{Shoots: 10, Height: 2000, Girth: 100}, api.SampleShoots, 223},
		{api.Tolerance{Shoots: 9, Height: 1999, Girth: 99}, api.SampleShoots, 223},
	} {
		if kind, n, e := growth.Ask(b, c.t); e != api.OK || kind != c.kind || n != c.want {
			t.Error(c, kind, n, e)
		}
	}
	if kind, n, e := growth.Ask(alone(stand(4, 10, 3000, 150)), api.Tolerance{}); e != api.OK || kind != api.SampleShoots || n != 0 {
		t.Error(kind, n, e)
	}
	for _, bad := range []api.Tolerance{{Shoots: -1}, {Shoots: 100001}, {Height: -1}, {Height: 100001}, {Girth: -1}, {Girth: 100001}, {Girth: math.MinInt}} {
		if kind, n, e := growth.Ask(b, bad); e != api.ErrArg || kind != 0 || n != 0 {
			t.Error(bad, kind, n, e)
		}
	}
}

// spread returns the spread of a box.
func spread(b api.Box) int {
	low, high, _ := growth.Woods(b)
	return high - low
}

// promised returns the promise of a measurement, tried with all numbers that it can say.
func promised(b api.Box, kind api.SampleKind, wrong int) int {
	greatest := 0
	s := spans(b)[kind-1]
	for m := s.Low; m <= s.High; m++ {
		c, _ := growth.Narrow(b, api.Sample{Kind: kind, Span: span(m-wrong, m+wrong)})
		greatest = max(greatest, spread(c))
	}
	return greatest
}

func TestAskPromisesTheLeastSpread(t *testing.T) {
	r := rand.New(rand.NewSource(29))
	asked := map[api.SampleKind]int{}
	for range 1000 {
		b := box(r.Intn(9), partOf(r, span(0, 300), 100), partOf(r, span(1000, 40000), 2000), partOf(r, span(100, 3000), 300))
		tolerance := api.Tolerance{Shoots: r.Intn(40), Height: r.Intn(900), Girth: r.Intn(90)}
		promises := []int{
			promised(b, api.SampleShoots, tolerance.Shoots), promised(b, api.SampleHeight, tolerance.Height), promised(b, api.SampleGirth, tolerance.Girth),
		}
		kind, n, e := growth.Ask(b, tolerance)
		least := slices.Min(promises)
		if e != api.OK || n != least || kind != api.SampleKind(1+slices.Index(promises, least)) {
			t.Fatal(b, tolerance, kind, n, e, promises)
		}
		if n > spread(b) {
			t.Fatal(b, tolerance, n, spread(b))
		}
		asked[kind]++
	}
	if asked[api.SampleShoots] < 50 || asked[api.SampleHeight] < 50 || asked[api.SampleGirth] < 50 {
		t.Error("these boxes say little:", asked)
	}
}
