package growth_test

import (
	"math"
	"math/rand"
	"slices"
	"testing"

	"greenhew/api"
	"greenhew/growth"
)

// chapterBox returns the box of the chapter after a step.
func chapterBox() api.Box { return box(1, span(20, 30), span(500, 1500), span(46, 69)) }

func TestInside(t *testing.T) {
	b := box(4, span(10, 12), span(100, 102), span(5, 7))
	for _, x := range []api.Stand{b.Low, b.High, stand(4, 11, 101, 6), stand(4, 10, 102, 5), stand(4, 12, 100, 7)} {
		if !growth.Inside(b, x) {
			t.Error(x)
		}
	}
	for _, x := range []api.Stand{
		stand(3, 11, 101, 6), stand(5, 11, 101, 6), stand(4, 9, 101, 6), stand(4, 13, 101, 6),
		stand(4, 11, 99, 6), stand(4, 11, 103, 6), stand(4, 11, 101, 4), stand(4, 11, 101, 8),
	} {
		if growth.Inside(b, x) {
			t.Error(x)
		}
	}
}

func TestBoxesThatAreNone(t *testing.T) {
	for _, b := range []api.Box{
		box(0, span(2, 1), span(0, 1), span(0, 1)),
		box(0, span(0, 1), span(2, 1), span(0, 1)),
		box(0, span(0, 1), span(0, 1), span(2, 1)),
		{Low: stand(1, 0, 0, 0), High: stand(2, 1, 1, 1)},
		{Low: stand(2, 0, 0, 0), High: stand(1, 1, 1, 1)},
		{Low: stand(-1, 0, 0, 0), High: stand(-1, 1, 1, 1)},
		box(0, span(0, 301), span(0, 1), span(0, 1)),
		box(0, span(0, 1), span(-1, 1), span(0, 1)),
		box(0, span(0, 1), span(0, 1), span(0, 3001)),
	} {
		refuseBox(t, b)
		for _, x := range []api.Stand{b.Low, b.High, stand(0, 1, 1, 1), stand(1, 1, 1, 1)} {
			if growth.Inside(b, x) {
				t.Error("inside", b, x)
			}
		}
	}
}

// refuseBox checks that no function takes a box, and that their other results are zero values.
func refuseBox(t *testing.T, b api.Box) {
	t.Helper()
	s, q, good := hazel(), chapterSeason(), alone(api.Stand{})
	c, e1 := growth.Step(s, b, q)
	h, e2 := growth.History(s, b, nil)
	low, high, e3 := growth.Woods(b)
	can, must, e4 := growth.Ready(s, b, nil, 0)
	n, e5 := growth.Narrow(b)
	d, e6 := growth.Back(s, b, q, good)
	f, e7 := growth.Back(s, good, q, b)
	o, e8 := growth.Smooth(s, b, nil, [][]api.Sample{nil})
	k, promise, e9 := growth.Ask(b, api.Tolerance{})
	for i, e := range []api.Errno{e1, e2, e3, e4, e5, e6, e7, e8, e9} {
		if e != api.ErrArg {
			t.Errorf("%+v: error %d of function %d", b, e, i)
		}
	}
	for _, zero := range []api.Box{c, n, d, f} {
		if zero != (api.Box{}) {
			t.Errorf("%+v: a box beside an error", b)
		}
	}
	if len(h)+len(o) != 0 || low != 0 || high != 0 || can != 0 || must != 0 || k != 0 || promise != 0 {
		t.Errorf("%+v: a result beside an error", b)
	}
}

func TestSeasonsThatAreNone(t *testing.T) {
	s, b := hazel(), alone(api.Stand{Shoots: 30})
	for _, q := range []api.Season{{}, {Light: span(0, 100), Browse: span(0, 100), Mild: span(0, 200), Cut: true}, {Light: span(100, 100), Browse: span(100, 100), Mild: span(200, 200)}} {
		if _, e := growth.Step(s, b, q); e != api.OK {
			t.Error(q, e)
		}
	}
	for _, q := range []api.Season{
		{Light: span(-1, 0)}, {Light: span(0, 101)}, {Light: span(2, 1)},
		{Browse: span(-1, 0)}, {Browse: span(0, 101)}, {Browse: span(2, 1)},
		{Mild: span(-1, 0)}, {Mild: span(0, 201)}, {Mild: span(2, 1)}, {Mild: span(1, math.MinInt)},
		{Light: span(2, 1), Cut: true},
	} {
		l := []api.Season{chapterSeason(), q}
		c, e1 := growth.Step(s, b, q)
		h, e2 := growth.History(s, b, l)
		can, must, e3 := growth.Ready(s, b, l, 0)
		d, e4 := growth.Back(s, b, q, b)
		o, e5 := growth.Smooth(s, b, l, make([][]api.Sample, 3))
		for i, e := range []api.Errno{e1, e2, e3, e4, e5} {
			if e != api.ErrArg {
				t.Errorf("%+v: error %d of function %d", q, e, i)
			}
		}
		if c != (api.Box{}) || d != (api.Box{}) || len(h)+len(o) != 0 || can != 0 || must != 0 {
			t.Errorf("%+v: a result beside an error", q)
		}
	}
}

func TestStepOfTheChapter(t *testing.T) {
	q := chapterSeason()
	if b, e := growth.Step(hazel(), alone(api.Stand{Shoots: 30}), q); e != api.OK || b != chapterBox() {
		t.Error(b, e)
	}
	q.Cut = true
	if b, e := growth.Step(hazel(), alone(stand(5, 8, 3000, 200)), q); e != api.OK || b != box(1, span(10, 30), span(500, 1500), span(46, 81)) {
		t.Error(b, e)
	}
}

func TestCutAtAllAges(t *testing.T) {
	s := api.Species{Rise: []int{10, 20}, Thick: []int{0}, Top: 100, Stout: 100}
	for a := range 60 {
		s.Sprouts = append(s.Sprouts, span(a, 2*a))
	}
	q := only(sunny(100))
	q.Cut = true
	for age, last := range map[int]int{0: 0, 1: 1, 58: 58, 59: 59, 60: 59, 99999: 59, 100000: 59} {
		// What a stool was before it was cut does not matter, but for its age.
		b, e := growth.Step(s, box(age, span(0, 300), span(0, 40000), span(0, 3000)), q)
		if e != api.OK || b != box(1, span(last, 2*last), span(10, 10), span(0, 0)) {
			t.Error(age, b, e)
		}
	}
}

// hull returns the least box with some stands of an age.
func hull(l []api.Stand) api.Box {
	b := alone(l[0])
	for _, x := range l {
		b.Low = stand(x.Age, min(b.Low.Shoots, x.Shoots), min(b.Low.Height, x.Height), min(b.Low.Girth, x.Girth))
		b.High = stand(x.Age, max(b.High.Shoots, x.Shoots), max(b.High.Height, x.Height), max(b.High.Girth, x.Girth))
	}
	return b
}

// allInside returns all stands inside a box.
func allInside(b api.Box) []api.Stand {
	var l []api.Stand
	for n := b.Low.Shoots; n <= b.High.Shoots; n++ {
		for h := b.Low.Height; h <= b.High.Height; h++ {
			for g := b.Low.Girth; g <= b.High.Girth; g++ {
				l = append(l, stand(b.Low.Age, n, h, g))
			}
		}
	}
	return l
}

// allLater returns all that stands inside a box can be after a season.
func allLater(s api.Species, b api.Box, q api.Season) []api.Stand {
	if q.Cut {
		b = box(0, sproutsOf(s, b.Low.Age), span(0, 0), span(0, 0))
	}
	var l []api.Stand
	for _, x := range allInside(b) {
		for light := q.Light.Low; light <= q.Light.High; light++ {
			for browse := q.Browse.Low; browse <= q.Browse.High; browse++ {
				for mild := q.Mild.Low; mild <= q.Mild.High; mild++ {
					l = append(l, yearLater(s, x, api.Weather{Light: light, Browse: browse, Mild: mild}))
				}
			}
		}
	}
	return l
}

func TestStepIsTheLeastBox(t *testing.T) {
	r := rand.New(rand.NewSource(23))
	for range 1500 {
		s := randomSpecies(r)
		b, q := randomBox(r, s, 4), randomSeason(r, 4)
		want := hull(allLater(s, b, q))
		if got, e := growth.Step(s, b, q); e != api.OK || got != want {
			t.Fatalf("%+v, %+v, %+v: %+v, not %+v; error %d", s, b, q, got, want, e)
		}
	}
}

func TestTheTrueWoodStaysInside(t *testing.T) {
	r := rand.New(rand.NewSource(24))
	for range 2000 {
		s := randomSpecies(r)
		b := randomBox(r, s, 300)
		l := randomSeasons(r, 9)
		h, e := growth.History(s, b, l)
		if e != api.OK || len(h) != len(l)+1 || h[0] != b {
			t.Fatal(s, b, l, h, e)
		}
		x := randomInside(r, b)
		for i, q := range l {
			x = trueYear(r, s, x, q)
			if !growth.Inside(h[i+1], x) {
				t.Fatalf("%+v, %+v, %+v: %+v is not in %+v", s, b, l, x, h[i+1])
			}
			if c, _ := growth.Step(s, h[i], q); c != h[i+1] {
				t.Fatal(s, b, l, i, c, h[i+1])
			}
		}
	}
}

func TestHistory(t *testing.T) {
	x := alone(api.Stand{Shoots: 30})
	if h, e := growth.History(hazel(), x, []api.Season{chapterSeason()}); e != api.OK || !slices.Equal(h, []api.Box{x, chapterBox()}) {
		t.Error(h, e)
	}
	for _, l := range [][]api.Season{nil, {}} {
		if h, e := growth.History(hazel(), x, l); e != api.OK || !slices.Equal(h, []api.Box{x}) {
			t.Error(h, e)
		}
	}
	h, e := growth.History(hazel(), x, make([]api.Season, 100))
	if e != api.OK || len(h) != 101 || h[100] != alone(stand(100, 30, 0, 0)) {
		t.Error(h, e)
	}
	if h, e := growth.History(hazel(), x, make([]api.Season, 101)); e != api.ErrLong || len(h) != 0 {
		t.Error(h, e)
	}
}

func TestWoods(t *testing.T) {
	for _, c := range []struct {
		b         api.Box
		low, high int
	}{
		{chapterBox(), 0, 8},
		{alone(stand(7, 20, 5000, 250)), 250, 250},
		{box(4, span(10, 20), span(3000, 5000), span(150, 250)), 27, 250},
		{box(4, span(0, 300), span(0, 40000), span(0, 3000)), 0, 4320000},
	} {
		if low, high, e := growth.Woods(c.b); e != api.OK || low != c.low || high != c.high {
			t.Error(c.b, low, high, e)
		}
	}
}

func TestReady(t *testing.T) {
	x := alone(api.Stand{Shoots: 30})
	grow, cut := chapterSeason(), chapterSeason()
	cut.Cut = true
	l := []api.Season{grow, grow, grow, cut, grow, grow}
	h, _ := growth.History(hazel(), x, l)
	var lows, highs []int
	for _, b := range h {
		low, high, _ := growth.Woods(b)
		lows, highs = append(lows, low), append(highs, high)
	}
	if !slices.Equal(lows, []int{0, 0, 3, 3, 0, 1, 3}) || !slices.Equal(highs, []int{0, 8, 38, 68, 11, 49, 85}) {
		t.Error(lows, highs)
	}
	for _, c := range []struct{ liters, can, must int }{
		{math.MinInt, 0, 0}, {-1, 0, 0}, {0, 0, 0}, {1, 1, 2}, {3, 1, 2}, {4, 1, -1}, {8, 1, -1}, {9, 2, -1}, {38, 2, -1}, {39, 3, -1},
		{68, 3, -1}, {69, 6, -1}, {85, 6, -1}, {86, -1, -1}, {math.MaxInt, -1, -1},
	} {
		if can, must, e := growth.Ready(hazel(), x, l, c.liters); e != api.OK || can != c.can || must != c.must {
			t.Error(c, can, must, e)
		}
	}
	if can, must, e := growth.Ready(hazel(), alone(stand(7, 20, 5000, 250)), nil, 250); e != api.OK || can != 0 || must != 0 {
		t.Error(can, must, e)
	}
	if _, _, e := growth.Ready(hazel(), x, make([]api.Season, 100), 1); e != api.OK {
		t.Error(e)
	}
	if can, must, e := growth.Ready(hazel(), x, make([]api.Season, 101), 1); e != api.ErrLong || can != 0 || must != 0 {
		t.Error(can, must, e)
	}
}

func TestReadyIsNeitherEarlyNorLate(t *testing.T) {
	r := rand.New(rand.NewSource(25))
	for range 3000 {
		s := randomSpecies(r)
		b := randomBox(r, s, 300)
		l := randomSeasons(r, 12)
		x := randomInside(r, b)
		var woods []int
		for i := range len(l) + 1 {
			if i > 0 {
				x = trueYear(r, s, x, l[i-1])
			}
			n, _ := growth.Wood(x)
			woods = append(woods, n)
		}
		liters := woods[r.Intn(len(woods))] + r.Intn(2)
		can, must, e := growth.Ready(s, b, l, liters)
		first := slices.IndexFunc(woods, func(n int) bool { return n >= liters })
		if e != api.OK || first >= 0 && (can < 0 || can > first) || must >= 0 && woods[must] < liters {
			t.Fatal(s, b, l, liters, woods, can, must, e)
		}
		wantCan, wantMust := -1, -1
		h, _ := growth.History(s, b, l)
		for i := len(h) - 1; i >= 0; i-- {
			low, high, _ := growth.Woods(h[i])
			if high >= liters {
				wantCan = i
			}
			if low >= liters {
				wantMust = i
			}
		}
		if can != wantCan || must != wantMust {
			t.Fatal(s, b, l, liters, can, must, wantCan, wantMust)
		}
	}
}
