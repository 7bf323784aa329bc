package growth_test

import (
	"math/rand"
	"slices"
	"testing"

	"greenhew/api"
	"greenhew/growth"
)

// contains reports whether a span contains another one.
func contains(s, part api.Span) bool { return s.Low <= part.Low && part.High <= s.High }

func containsBox(b, part api.Box) bool {
	for i, s := range spans(b) {
		if !contains(s, spans(part)[i]) {
			return false
		}
	}
	return b.Low.Age == part.Low.Age && b.High.Age == part.High.Age
}

// wider returns a span that contains another one and lies between 0 and a number.
func wider(r *rand.Rand, s api.Span, most int) api.Span {
	return span(r.Intn(s.Low+1), s.High+r.Intn(most-s.High+1))
}

func TestGreaterBoxesAndWiderSeasons(t *testing.T) {
	r := rand.New(rand.NewSource(33))
	for range 5000 {
		s := randomSpecies(r)
		b, q := randomBox(r, s, 300), randomSeason(r, 60)
		c, _ := growth.Step(s, b, q)
		l := spans(b)
		greater := box(b.Low.Age, wider(r, l[0], 300), wider(r, l[1], 40000), wider(r, l[2], 3000))
		if d, e := growth.Step(s, greater, q); e != api.OK || !containsBox(d, c) {
			t.Fatal("a greater box", s, b, greater, q, c, d, e)
		}
		wide := api.Season{Light: wider(r, q.Light, 100), Browse: wider(r, q.Browse, 100), Mild: wider(r, q.Mild, 200), Cut: q.Cut}
		if d, e := growth.Step(s, b, wide); e != api.OK || !containsBox(d, c) {
			t.Fatal("a wider season", s, b, q, wide, c, d, e)
		}
	}
}

func TestASingleStandInASingleWeather(t *testing.T) {
	r := rand.New(rand.NewSource(34))
	for range 5000 {
		s := randomSpecies(r)
		x := randomInside(r, randomBox(r, s, 300))
		w := randomWeather(r, api.Season{Light: span(0, 100), Browse: span(0, 100), Mild: span(0, 200)})
		y, _ := growth.Grow(s, x, w)
		if b, e := growth.Step(s, alone(x), only(w)); e != api.OK || b != alone(y) {
			t.Fatal(s, x, w, y, b, e)
		}
	}
}

func TestSamplesTwiceAndInAnyOrder(t *testing.T) {
	r := rand.New(rand.NewSource(35))
	for range 3000 {
		b := randomBox(r, hazel(), 60)
		l := append(trueSamples(r, randomInside(r, b)), trueSamples(r, randomInside(r, b))...)
		once, e1 := growth.Narrow(b, l...)
		slices.Reverse(l)
		back, e2 := growth.Narrow(b, l...)
		r.Shuffle(len(l), func(i, j int) { l[i], l[j] = l[j], l[i] })
		mixed, e3 := growth.Narrow(b, l...)
		if once != back || once != mixed || e1 != e2 || e1 != e3 {
			t.Fatal(b, l, once, back, mixed, e1, e2, e3)
		}
		if e1 != api.OK {
			continue
		}
		if twice, e := growth.Narrow(once, l...); e != api.OK || twice != once {
			t.Fatal(b, l, once, twice, e)
		}
		if !containsBox(b, once) {
			t.Fatal(b, l, once)
		}
	}
}

func TestLongListsComeBeforeWrongArguments(t *testing.T) {
	b := api.Box{Low: stand(0, 1, 1, 1)}
	long := make([]api.Season, 101)
	if h, e := growth.History(api.Species{}, b, long); e != api.ErrLong || len(h) != 0 {
		t.Error(h, e)
	}
	if can, must, e := growth.Ready(api.Species{}, b, long, 1); e != api.ErrLong || can != 0 || must != 0 {
		t.Error(can, must, e)
	}
	if h, e := growth.Smooth(api.Species{}, b, long, nil); e != api.ErrLong || len(h) != 0 {
		t.Error(h, e)
	}
	if h, e := growth.Smooth(api.Species{}, b, nil, [][]api.Sample{make([]api.Sample, 51)}); e != api.ErrLong || len(h) != 0 {
		t.Error(h, e)
	}
	if c, e := growth.Narrow(b, make([]api.Sample, 51)...); e != api.ErrLong || c != (api.Box{}) {
		t.Error(c, e)
	}
}

func copySamples(samples [][]api.Sample) [][]api.Sample {
	var l [][]api.Sample
	for _, m := range samples {
		l = append(l, slices.Clone(m))
	}
	return l
}

func TestArgumentsStayAsTheyAreAndAnswersToo(t *testing.T) {
	r := rand.New(rand.NewSource(36))
	for range 300 {
		s, b, l, samples, stands := randomSurveys(r)
		s0, l0, samples0 := copyOf(s), slices.Clone(l), copySamples(samples)
		h, _ := growth.History(s, b, l)
		o, _ := growth.Smooth(s, b, l, samples)
		h0, o0 := slices.Clone(h), slices.Clone(o)
		again, _ := growth.History(s, b, l)
		smooth, _ := growth.Smooth(s, b, l, samples)
		clear(again)
		clear(smooth)
		growth.Grow(s, stands[0], sunny(100))
		growth.Ready(s, b, l, 10)
		growth.Narrow(b, samples[0]...)
		for _, q := range l {
			growth.Back(s, b, q, b)
		}
		if !slices.Equal(h, h0) || !slices.Equal(o, o0) {
			t.Fatal("answers share memory", s, b, l, samples)
		}
		if !sameSpecies(s, s0) || !slices.Equal(l, l0) || !slices.EqualFunc(samples, samples0, slices.Equal) {
			t.Fatal(s, b, l, samples)
		}
		// The same arguments have the same answers.
		if again, e := growth.Smooth(s, b, l, samples); e != api.OK || !slices.Equal(again, o) {
			t.Fatal(s, b, l, samples, o, again, e)
		}
	}
}

func oddSpan(r *rand.Rand) api.Span { return span(odd(r), odd(r)) }

func oddStand(r *rand.Rand) api.Stand { return stand(odd(r), odd(r), odd(r), odd(r)) }

func oddSpecies(r *rand.Rand) api.Species {
	s := randomSpecies(r)
	switch r.Intn(12) {
	case 0:
		s.Rise = append(s.Rise, odd(r))
	case 1:
		s.Thick = append(s.Thick, odd(r))
	case 2:
		s.Top, s.Stout = odd(r), odd(r)
	case 3:
		s.Shade, s.Reach = odd(r), odd(r)
	case 4:
		s.Ladder = append(s.Ladder, api.Rung{Height: odd(r), Shoots: odd(r)})
	case 5:
		s.Sprouts = append(s.Sprouts, oddSpan(r))
	case 6:
		s = api.Species{}
	}
	return s
}

func oddBox(r *rand.Rand) api.Box {
	b := randomBox(r, hazel(), 300)
	switch r.Intn(6) {
	case 0:
		return api.Box{Low: oddStand(r), High: oddStand(r)}
	case 1:
		return alone(oddStand(r))
	case 2:
		b.High.Age = odd(r)
	}
	return b
}

func oddSeasons(r *rand.Rand) []api.Season {
	l := make([]api.Season, []int{0, 1, 2, 3, 100, 101}[r.Intn(6)])
	for i := range l {
		l[i] = randomSeason(r, 100)
	}
	if len(l) > 0 && r.Intn(4) == 0 {
		l[r.Intn(len(l))] = api.Season{Light: oddSpan(r), Browse: oddSpan(r), Mild: oddSpan(r)}
	}
	return l
}

func oddSamples(r *rand.Rand) []api.Sample {
	l := make([]api.Sample, []int{0, 1, 2, 50, 51}[r.Intn(5)])
	for i := range l {
		l[i] = api.Sample{Kind: api.SampleKind(1 + r.Intn(3)), Span: span(0, odd(r))}
		if r.Intn(50) == 0 {
			l[i] = api.Sample{Kind: api.SampleKind(odd(r)), Span: oddSpan(r)}
		}
	}
	return l
}

// answers calls all functions, and returns their errors and whether all their other results are zero values where there is an error.
func answers(r *rand.Rand) ([]api.Errno, bool) {
	s, b, after, x, l := oddSpecies(r), oddBox(r), oddBox(r), oddStand(r), oddSeasons(r)
	q := append(oddSeasons(r), randomSeason(r, 100))[0]
	samples := make([][]api.Sample, max(0, len(l)+r.Intn(3)))
	for i := range samples {
		if r.Intn(3) == 0 {
			samples[i] = oddSamples(r)
		}
	}
	errs, zero := []api.Errno{growth.Check(s)}, true
	note := func(e api.Errno, none bool) { errs, zero = append(errs, e), zero && (e == api.OK || none) }
	y, e := growth.Grow(s, x, api.Weather{Light: odd(r), Browse: odd(r), Mild: odd(r)})
	note(e, y == api.Stand{})
	n, e := growth.Wood(x)
	note(e, n == 0)
	growth.Inside(b, x)
	c, e := growth.Step(s, b, q)
	note(e, c == api.Box{})
	h, e := growth.History(s, b, l)
	note(e, len(h) == 0)
	low, high, e := growth.Woods(b)
	note(e, low == 0 && high == 0)
	can, must, e := growth.Ready(s, b, l, odd(r))
	note(e, can == 0 && must == 0)
	c, e = growth.Narrow(b, oddSamples(r)...)
	note(e, c == api.Box{})
	c, e = growth.Back(s, b, q, after)
	note(e, c == api.Box{})
	h, e = growth.Smooth(s, b, l, samples)
	note(e, len(h) == 0)
	k, n, e := growth.Ask(b, api.Tolerance{Shoots: odd(r), Height: odd(r), Girth: odd(r)})
	note(e, k == 0 && n == 0)
	return errs, zero
}

func TestFunctionsAnswerForAllArguments(t *testing.T) {
	r := rand.New(rand.NewSource(37))
	seen := map[api.Errno]int{}
	for range 5000 {
		errs, zero := answers(r)
		for _, e := range errs {
			if e != api.OK && e != api.ErrLong && e != api.ErrArg && e != api.ErrNone {
				t.Fatal(errs)
			}
			seen[e]++
		}
		if !zero {
			t.Fatal("a result beside an error", errs)
		}
	}
	if len(seen) != 4 {
		t.Error("these arguments say little:", seen)
	}
}
