package growth_test

import (
	"math"
	"math/rand"
	"slices"
	"testing"

	"greenhew/api"
	"greenhew/growth"
)

// greatest returns a species all of whose numbers and lists are as great as they can be.
func greatest() api.Species {
	s := api.Species{
		Rise: slices.Repeat([]int{5000}, 60), Thick: slices.Repeat([]int{300}, 60), Top: 40000, Stout: 3000, Shade: 99, Reach: 40000,
		Sprouts: slices.Repeat([]api.Span{{Low: 300, High: 300}}, 60),
	}
	for i := range 20 {
		s.Ladder = append(s.Ladder, api.Rung{Height: 39981 + i, Shoots: 300 - i})
	}
	return s
}

func TestCheckTakesSpecies(t *testing.T) {
	least := api.Species{Rise: []int{0}, Thick: []int{0}, Top: 1, Stout: 1, Sprouts: []api.Span{{}}}
	lowRung := copyOf(least)
	lowRung.Ladder = []api.Rung{{Height: 1, Shoots: 0}}
	nextRung := copyOf(least)
	nextRung.Ladder = []api.Rung{{Height: 1, Shoots: 1}, {Height: 2, Shoots: 0}}
	for i, s := range []api.Species{hazel(), greatest(), least, lowRung, nextRung} {
		if e := growth.Check(s); e != api.OK {
			t.Error(i, e)
		}
	}
}

func TestCheckRefusesWhatIsNoSpecies(t *testing.T) {
	for name, spoil := range map[string]func(s *api.Species){
		"no rise":           func(s *api.Species) { s.Rise = []int{} },
		"61 rises":          func(s *api.Species) { s.Rise = make([]int, 61) },
		"rise -1":           func(s *api.Species) { s.Rise[0] = -1 },
		"last rise -1":      func(s *api.Species) { s.Rise[1] = -1 },
		"rise 5001":         func(s *api.Species) { s.Rise[1] = 5001 },
		"no thick":          func(s *api.Species) { s.Thick = nil },
		"61 thicks":         func(s *api.Species) { s.Thick = make([]int, 61) },
		"thick -1":          func(s *api.Species) { s.Thick[0] = -1 },
		"last thick -1":     func(s *api.Species) { s.Thick[1] = -1 },
		"thick 301":         func(s *api.Species) { s.Thick[1] = 301 },
		"top 0":             func(s *api.Species) { s.Top = 0 },
		"top 40001":         func(s *api.Species) { s.Top = 40001 },
		"stout 0":           func(s *api.Species) { s.Stout = 0 },
		"stout 3001":        func(s *api.Species) { s.Stout = 3001 },
		"shade -1":          func(s *api.Species) { s.Shade = -1 },
		"shade 100":         func(s *api.Species) { s.Shade = 100 },
		"reach -1":          func(s *api.Species) { s.Reach = -1 },
		"reach 40001":       func(s *api.Species) { s.Reach = 40001 },
		"rung at 0":         func(s *api.Species) { s.Ladder[0].Height = 0 },
		"rung at 40001":     func(s *api.Species) { s.Ladder[1].Height = 40001 },
		"rung with -1":      func(s *api.Species) { s.Ladder[1].Shoots = -1 },
		"rung with 301":     func(s *api.Species) { s.Ladder[0].Shoots = 301 },
		"rungs of a height": func(s *api.Species) { s.Ladder[1].Height = 1000 },
		"rungs that fall":   func(s *api.Species) { s.Ladder[1].Height = 999 },
		"rungs of as many":  func(s *api.Species) { s.Ladder[1].Shoots = 20 },
		"rungs of more":     func(s *api.Species) { s.Ladder[1].Shoots = 21 },
		"21 rungs": func(s *api.Species) {
			*s = greatest()
			s.Ladder = append([]api.Rung{{Height: 39980, Shoots: 300}}, s.Ladder...)
			for i := range s.Ladder {
				s.Ladder[i].Shoots = 300 - i
			}
		},
		"no sprouts":         func(s *api.Species) { s.Sprouts = nil },
		"61 sprouts":         func(s *api.Species) { s.Sprouts = make([]api.Span, 61) },
		"sprouts from -1":    func(s *api.Species) { s.Sprouts[0].Low = -1 },
		"sprouts to 301":     func(s *api.Species) { s.Sprouts[1].High = 301 },
		"sprouts that fall":  func(s *api.Species) { s.Sprouts[1].High = 9 },
		"sprouts of minint":  func(s *api.Species) { s.Sprouts[1] = span(math.MinInt, math.MinInt) },
		"everything is zero": func(s *api.Species) { *s = api.Species{} },
	} {
		s := hazel()
		spoil(&s)
		if e := growth.Check(s); e != api.ErrArg {
			t.Errorf("%s: %d", name, e)
		}
		refuseSpecies(t, name, s)
	}
}

// refuseSpecies checks that no function takes a species, and that their other results are zero values.
func refuseSpecies(t *testing.T, name string, s api.Species) {
	t.Helper()
	b, q := alone(api.Stand{Shoots: 30}), chapterSeason()
	x, e1 := growth.Grow(s, api.Stand{}, api.Weather{})
	c, e2 := growth.Step(s, b, q)
	h, e3 := growth.History(s, b, nil)
	can, must, e4 := growth.Ready(s, b, nil, 0)
	d, e5 := growth.Back(s, b, q, b)
	o, e6 := growth.Smooth(s, b, nil, [][]api.Sample{nil})
	for i, e := range []api.Errno{e1, e2, e3, e4, e5, e6} {
		if e != api.ErrArg {
			t.Errorf("%s: error %d of function %d", name, e, i)
		}
	}
	if x != (api.Stand{}) || c != (api.Box{}) || d != (api.Box{}) || len(h)+len(o) != 0 || can != 0 || must != 0 {
		t.Errorf("%s: a result beside an error", name)
	}
}

func TestGrowOfTheChapter(t *testing.T) {
	x := api.Stand{Shoots: 30}
	for _, c := range []struct {
		x    api.Stand
		w    api.Weather
		want api.Stand
	}{
		{x, sunny(100), stand(1, 20, 1000, 46)},
		{stand(1, 20, 1000, 46), sunny(100), stand(2, 20, 1500, 79)},
		{x, api.Weather{Light: 100, Browse: 50, Mild: 100}, stand(1, 30, 500, 46)},
		{x, api.Weather{Light: 60, Mild: 100}, stand(1, 30, 500, 23)},
		{x, api.Weather{Light: 20, Mild: 200}, stand(1, 30, 0, 0)},
		// Less light than the shade is as none.
		{x, api.Weather{Light: 0, Mild: 200}, stand(1, 30, 0, 0)},
		{x, api.Weather{Light: 100}, stand(1, 30, 0, 0)},
		// 1000 * 1 * 100 / 8000 and 60 * 1 * 100 / 8000 are rounded down.
		{x, api.Weather{Light: 21, Mild: 100}, stand(1, 30, 12, 0)},
		// The rise of 12 is rounded before a half is browsed of it.
		{x, api.Weather{Light: 21, Browse: 45, Mild: 100}, stand(1, 30, 6, 0)},
		{x, api.Weather{Light: 100, Browse: 100, Mild: 200}, stand(1, 30, 0, 92)},
		// Shoots below the reach are browsed, those at it are not.
		{stand(1, 3, 1499, 10), api.Weather{Light: 100, Browse: 100, Mild: 100}, stand(2, 3, 1499, 48)},
		{stand(1, 3, 1500, 10), api.Weather{Light: 100, Browse: 100, Mild: 100}, stand(2, 3, 2000, 48)},
		// A rung counts from its height on, and the last one alone; fewer shoots are not made more.
		{stand(1, 30, 499, 0), sunny(100), stand(2, 30, 999, 30)},
		{stand(1, 30, 500, 0), sunny(100), stand(2, 20, 1000, 30)},
		{stand(1, 30, 2499, 0), sunny(100), stand(2, 20, 2999, 30)},
		{stand(1, 30, 2500, 0), sunny(100), stand(2, 8, 3000, 30)},
		{stand(1, 7, 2500, 0), sunny(100), stand(2, 7, 3000, 37)},
		// The end of height, girth and age, and what is beyond it.
		{stand(5, 0, 7500, 360), sunny(100), stand(6, 0, 8000, 400)},
		{stand(5, 0, 7501, 361), sunny(100), stand(6, 0, 8000, 400)},
		{stand(5, 300, 40000, 3000), api.Weather{}, stand(6, 8, 8000, 400)},
		{stand(99999, 1, 1, 1), api.Weather{}, stand(100000, 1, 1, 1)},
		{stand(100000, 1, 1, 1), api.Weather{}, stand(100000, 1, 1, 1)},
	} {
		if y, e := growth.Grow(hazel(), c.x, c.w); e != api.OK || y != c.want {
			t.Errorf("%+v, %+v: %+v, not %+v; error %d", c.x, c.w, y, c.want, e)
		}
	}
}

func TestGrowAtAllAges(t *testing.T) {
	s := api.Species{Top: 40000, Stout: 3000, Sprouts: []api.Span{{}}}
	for a := range 60 {
		s.Rise, s.Thick = append(s.Rise, 100+a), append(s.Thick, 200+a)
	}
	for age, last := range map[int]int{0: 0, 1: 1, 58: 58, 59: 59, 60: 59, 61: 59, 99999: 59, 100000: 59} {
		y, e := growth.Grow(s, api.Stand{Age: age}, sunny(100))
		if e != api.OK || y.Height != 100+last || y.Girth != 200+last {
			t.Error(age, y, e)
		}
	}
	// Each table has its own last number.
	s.Rise, s.Thick = []int{7}, []int{1, 2, 3}
	if y, _ := growth.Grow(s, api.Stand{Age: 1}, sunny(100)); y.Height != 7 || y.Girth != 2 {
		t.Error(y)
	}
}

func TestGrowWithTheGreatestNumbers(t *testing.T) {
	y, e := growth.Grow(greatest(), stand(0, 300, 39000, 0), sunny(200))
	if e != api.OK || y != stand(1, 281, 40000, 150) {
		t.Error(y, e)
	}
	y, e = growth.Grow(greatest(), stand(0, 300, 0, 0), sunny(200))
	if e != api.OK || y != stand(1, 300, 10000, 150) {
		t.Error(y, e)
	}
}

func TestGrowIsWhatTheChapterSays(t *testing.T) {
	r := rand.New(rand.NewSource(21))
	for range 20000 {
		s := randomSpecies(r)
		x := randomInside(r, randomBox(r, s, 50))
		w := api.Weather{Light: r.Intn(101), Browse: r.Intn(101), Mild: r.Intn(201)}
		if y, e := growth.Grow(s, x, w); e != api.OK || y != yearLater(s, x, w) {
			t.Fatalf("%+v, %+v, %+v: %+v, not %+v; error %d", s, x, w, y, yearLater(s, x, w), e)
		}
	}
}

func TestBetterYears(t *testing.T) {
	r := rand.New(rand.NewSource(22))
	for range 20000 {
		s := randomSpecies(r)
		x := randomInside(r, randomBox(r, s, 50))
		w := api.Weather{Light: r.Intn(101), Browse: r.Intn(101), Mild: r.Intn(201)}
		better := w
		better.Light, better.Mild = w.Light+r.Intn(101-w.Light), w.Mild+r.Intn(201-w.Mild)
		y, _ := growth.Grow(s, x, w)
		z, e := growth.Grow(s, x, better)
		if e != api.OK || z.Height < y.Height || z.Girth < y.Girth || z.Shoots > y.Shoots {
			t.Fatal("light and mild weather", s, x, w, better, y, z, e)
		}
		browsed := w
		browsed.Browse += r.Intn(101 - w.Browse)
		if z, e := growth.Grow(s, x, browsed); e != api.OK || z.Height > y.Height || z.Girth != y.Girth {
			t.Fatal("browsing", s, x, w, browsed, y, z, e)
		}
	}
}

func TestWeatherThatIsNone(t *testing.T) {
	for _, w := range []api.Weather{{Light: 100, Browse: 100, Mild: 200}, {}} {
		if _, e := growth.Grow(hazel(), api.Stand{}, w); e != api.OK {
			t.Error(w, e)
		}
	}
	for _, w := range []api.Weather{{Light: -1}, {Light: 101}, {Browse: -1}, {Browse: 101}, {Mild: -1}, {Mild: 201}, {Mild: math.MinInt}} {
		if y, e := growth.Grow(hazel(), api.Stand{Shoots: 30}, w); e != api.ErrArg || y != (api.Stand{}) {
			t.Error(w, y, e)
		}
	}
}

func TestStandsThatAreNone(t *testing.T) {
	for _, x := range []api.Stand{{}, stand(100000, 300, 40000, 3000)} {
		_, e1 := growth.Wood(x)
		_, e2 := growth.Grow(hazel(), x, api.Weather{})
		if e1 != api.OK || e2 != api.OK || !growth.Inside(alone(x), x) {
			t.Error(x, e1, e2)
		}
	}
	for _, x := range []api.Stand{
		{Age: -1}, {Age: 100001}, {Shoots: -1}, {Shoots: 301}, {Height: -1}, {Height: 40001}, {Girth: -1}, {Girth: 3001}, {Girth: math.MinInt}, {Age: math.MaxInt},
	} {
		y, e1 := growth.Grow(hazel(), x, sunny(100))
		n, e2 := growth.Wood(x)
		if e1 != api.ErrArg || e2 != api.ErrArg || y != (api.Stand{}) || n != 0 {
			t.Error(x, y, e1, n, e2)
		}
		refuseBox(t, alone(x))
		if growth.Inside(alone(x), x) || growth.Inside(box(0, span(0, 300), span(0, 40000), span(0, 3000)), x) {
			t.Error("inside", x)
		}
	}
}

func TestWood(t *testing.T) {
	for _, c := range []struct {
		x    api.Stand
		want int
	}{
		{api.Stand{}, 0},
		{stand(7, 20, 5000, 250), 250},
		{stand(0, 20, 5000, 250), 250},
		{stand(7, 1, 25, 1000), 1},
		{stand(7, 1, 24, 1020), 0},
		{stand(7, 1, 25, 999), 0},
		{stand(7, 1, 49, 1000), 1},
		{stand(7, 1, 50, 1000), 2},
		{stand(7, 7, 9214, 2004), 10360},
		{stand(7, 300, 40000, 3000), 4320000},
		{stand(7, 0, 40000, 3000), 0},
		{stand(7, 300, 0, 3000), 0},
		{stand(7, 300, 40000, 0), 0},
	} {
		if n, e := growth.Wood(c.x); e != api.OK || n != c.want {
			t.Error(c.x, n, e)
		}
	}
}
