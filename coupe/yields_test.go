package coupe_test

import (
	"math"
	"math/rand"
	"slices"
	"testing"

	"greenhew/api"
	"greenhew/coupe"
	"greenhew/growth"
)

func span(low, high int) api.Span { return api.Span{Low: low, High: high} }

// hazel returns the species h of layer 2.
func hazel() api.Species {
	return api.Species{
		Rise: []int{1000, 500}, Thick: []int{60, 40}, Top: 8000, Stout: 400, Shade: 20, Reach: 1500,
		Ladder:  []api.Rung{{Height: 1000, Shoots: 20}, {Height: 3000, Shoots: 8}},
		Sprouts: []api.Span{span(5, 10), span(10, 30)},
	}
}

// fair returns the season of the chapter.
func fair() api.Season { return api.Season{Light: span(100, 100), Mild: span(100, 100)} }

func TestYieldsOfTheChapter(t *testing.T) {
	if y, e := coupe.Yields(hazel(), fair(), 1000, 2); e != api.OK || !slices.Equal(y, []int{0, 0, 3000}) {
		t.Error(y, e)
	}
}

func TestYieldsOfTheAgeAtTheCut(t *testing.T) {
	s := hazel()
	s.Ladder, s.Sprouts = nil, []api.Span{span(300, 300), span(100, 100), span(20, 20), span(10, 10)}
	for most, shoots := range map[int]int{1: 100, 2: 20, 3: 10, 4: 10, 40: 10} {
		y, e := coupe.Yields(s, fair(), 1, most)
		if e != api.OK || len(y) != most+1 {
			t.Fatal(most, y, e)
		}
		x := api.Stand{Shoots: shoots}
		for age, n := range y {
			if w, _ := growth.Wood(x); n != w {
				t.Error(most, age, n, w)
			}
			x, _ = growth.Grow(s, x, api.Weather{Light: 100, Mild: 100})
		}
	}
}

func TestYieldsAreAtMostTheGreatestYield(t *testing.T) {
	s := api.Species{Rise: []int{5000}, Thick: []int{300}, Top: 40000, Stout: 3000, Sprouts: []api.Span{span(300, 300)}}
	q := api.Season{Light: span(100, 100), Mild: span(200, 200)}
	y, e := coupe.Yields(s, q, 100000, 40)
	if e != api.OK || len(y) != 41 || y[0] != 0 || y[1] != 1000000 || y[40] != 1000000 {
		t.Error(y, e)
	}
	one, e := coupe.Yields(s, q, 1, 40)
	if e != api.OK || one[1] != 300*10000*150*150/25000000 || one[40] != 1000000 {
		t.Error(one, e)
	}
	none, e := coupe.Yields(s, q, 0, 40)
	if e != api.OK || !slices.Equal(none, make([]int, 41)) {
		t.Error(none, e)
	}
}

func TestYieldsRefuses(t *testing.T) {
	cut, dark, low := fair(), fair(), hazel()
	cut.Cut, dark.Light.High, low.Top = true, 101, 0
	for name, x := range map[string]struct {
		s            api.Species
		q            api.Season
		stools, most int
	}{
		"a cut":           {hazel(), cut, 10, 2},
		"a wrong season":  {hazel(), dark, 10, 2},
		"a wrong species": {low, fair(), 10, 2},
		"no species":      {api.Species{}, fair(), 10, 2},
		"stools -1":       {hazel(), fair(), -1, 2},
		"stools 100001":   {hazel(), fair(), 100001, 2},
		"most 0":          {hazel(), fair(), 10, 0},
		"most -1":         {hazel(), fair(), 10, -1},
		"most 41":         {hazel(), fair(), 10, 41},
		"greatest most":   {hazel(), fair(), 10, math.MaxInt},
		"least most":      {hazel(), fair(), 10, math.MinInt},
	} {
		if y, e := coupe.Yields(x.s, x.q, x.stools, x.most); e != api.ErrArg || len(y) != 0 {
			t.Error(name, y, e)
		}
	}
}

func randomSpan(r *rand.Rand, low, high int) api.Span {
	from := low + r.Intn(high-low+1)
	return span(from, from+r.Intn(high-from+1))
}

func randomIn(r *rand.Rand, s api.Span) int { return s.Low + r.Intn(s.High-s.Low+1) }

func randomSpecies(r *rand.Rand) api.Species {
	s := api.Species{Top: 1 + r.Intn(40000), Stout: 1 + r.Intn(3000), Shade: r.Intn(60), Reach: r.Intn(8000)}
	for range 1 + r.Intn(4) {
		s.Rise, s.Thick = append(s.Rise, r.Intn(5001)), append(s.Thick, r.Intn(301))
		s.Sprouts = append(s.Sprouts, randomSpan(r, 0, 300))
	}
	for i := range r.Intn(5) {
		s.Ladder = append(s.Ladder, api.Rung{Height: 1 + i*3000 + r.Intn(3000), Shoots: 250 - i*50 - r.Intn(50)})
	}
	return s
}

func TestTrueStoolsHaveTheSureYields(t *testing.T) {
	r := rand.New(rand.NewSource(15))
	wood := 0
	for range 2000 {
		s, most := randomSpecies(r), 1+r.Intn(12)
		q := api.Season{Light: randomSpan(r, 50, 100), Browse: randomSpan(r, 0, 100), Mild: randomSpan(r, 50, 200)}
		y, e := coupe.Yields(s, q, 1, most)
		if e != api.OK || len(y) != most+1 {
			t.Fatal(s, q, most, y, e)
		}
		many, e := coupe.Yields(s, q, 1000, most)
		if e != api.OK || len(many) != most+1 {
			t.Fatal(s, q, most, many, e)
		}
		sprouts := s.Sprouts[min(most, len(s.Sprouts)-1)]
		cut := api.Box{Low: api.Stand{Shoots: sprouts.Low}, High: api.Stand{Shoots: sprouts.High}}
		x := api.Stand{Shoots: randomIn(r, sprouts)}
		for age, sure := range y {
			h, _ := growth.History(s, cut, slices.Repeat([]api.Season{q}, age))
			if low, _, _ := growth.Woods(h[age]); sure != min(low, 1000000) {
				t.Fatal(s, q, most, age, sure, low)
			}
			if n, _ := growth.Wood(x); n < sure || sure < 1000000 && many[age] != min(1000*sure, 1000000) {
				t.Fatal(s, q, most, age, x, n, sure, many)
			}
			wood = max(wood, sure)
			x, _ = growth.Grow(s, x, api.Weather{Light: randomIn(r, q.Light), Browse: randomIn(r, q.Browse), Mild: randomIn(r, q.Mild)})
		}
	}
	if wood < 1000 {
		t.Error("these species say little:", wood)
	}
}

func TestYieldsMakeACoupe(t *testing.T) {
	y, e := coupe.Yields(hazel(), fair(), 1000, 8)
	if e != api.OK {
		t.Fatal(e)
	}
	c := api.Cycle{Coupes: []api.Coupe{{Yields: y, Least: 2, Most: 8}}, Hands: 1}
	if p, e := coupe.Plan(c, 9); e != api.OK || sumOf(p.Yields) < y[8] {
		t.Error(p, e)
	}
}
