package coupe_test

import (
	"math"
	"math/rand"
	"slices"
	"testing"

	"greenhew/api"
	"greenhew/coupe"
)

func TestCheckTakesCycles(t *testing.T) {
	greatest := api.Cycle{Coupes: coupesOf(40), Hands: 6, Habitats: slices.Repeat([]api.Habitat{{From: 40, To: 40, Need: 6}}, 10)}
	greatest.Coupes[0].Age, greatest.Coupes[0].Least = 40, 40
	greatest.Coupes[0].Yields = slices.Repeat([]int{1000000}, 41)
	for name, c := range map[string]api.Cycle{
		"the chapter's":   chapterCycle(),
		"the least":       {Coupes: []api.Coupe{{Yields: []int{0, 0}, Least: 1, Most: 1}}},
		"the greatest":    greatest,
		"six coupes":      {Coupes: coupesOf(4, 4, 4, 4, 4, 4), Habitats: []api.Habitat{{}}},
		"of 20000 states": {Coupes: coupesOf(39, 24, 19)},
	} {
		if e := coupe.Check(c); e != api.OK {
			t.Error(name, e)
		}
	}
}

func TestCheckRefusesTooManyStates(t *testing.T) {
	for _, l := range [][]api.Coupe{coupesOf(21, 25, 34), coupesOf(40, 40, 40), coupesOf(40, 40, 40, 40, 40, 40), coupesOf(4, 4, 4, 4, 4, 6)} {
		c := api.Cycle{Coupes: l}
		if e := coupe.Check(c); e != api.ErrLong {
			t.Error(e)
		}
		c.Hands = 7
		if e := coupe.Check(c); e != api.ErrArg {
			t.Error(e)
		}
	}
}

func TestWhatIsNoCycleIsRefused(t *testing.T) {
	for name, spoil := range map[string]func(c *api.Cycle){
		"no coupes":        func(c *api.Cycle) { c.Coupes = []api.Coupe{} },
		"seven coupes":     func(c *api.Cycle) { c.Coupes = coupesOf(1, 1, 1, 1, 1, 1, 1) },
		"hands -1":         func(c *api.Cycle) { c.Hands = -1 },
		"hands 7":          func(c *api.Cycle) { c.Hands = 7 },
		"most 0":           func(c *api.Cycle) { c.Coupes[1] = api.Coupe{Yields: []int{0}} },
		"most 0, least 1":  func(c *api.Cycle) { c.Coupes[1] = api.Coupe{Yields: []int{0}, Least: 1} },
		"most -1":          func(c *api.Cycle) { c.Coupes[1] = api.Coupe{Most: -1} },
		"most 41":          func(c *api.Cycle) { c.Coupes[1] = api.Coupe{Yields: make([]int, 42), Least: 1, Most: 41} },
		"greatest most":    func(c *api.Cycle) { c.Coupes[1].Most = math.MaxInt },
		"least 0":          func(c *api.Cycle) { c.Coupes[1].Least = 0 },
		"least after most": func(c *api.Cycle) { c.Coupes[1].Least = 3 },
		"age -1":           func(c *api.Cycle) { c.Coupes[1].Age = -1 },
		"age after most":   func(c *api.Cycle) { c.Coupes[1].Age = 3 },
		"no yields":        func(c *api.Cycle) { c.Coupes[1].Yields = nil },
		"few yields":       func(c *api.Cycle) { c.Coupes[1].Yields = []int{0, 2} },
		"many yields":      func(c *api.Cycle) { c.Coupes[1].Yields = []int{0, 2, 4, 4} },
		"yield -1":         func(c *api.Cycle) { c.Coupes[1].Yields[0] = -1 },
		"yield 1000001":    func(c *api.Cycle) { c.Coupes[1].Yields[2] = 1000001 },
		"11 habitats":      func(c *api.Cycle) { c.Habitats = make([]api.Habitat, 11) },
		"from -1":          func(c *api.Cycle) { c.Habitats = []api.Habitat{{}, {From: -1}} },
		"from after to":    func(c *api.Cycle) { c.Habitats = []api.Habitat{{}, {From: 2, To: 1}} },
		"to 41":            func(c *api.Cycle) { c.Habitats = []api.Habitat{{}, {To: 41}} },
		"need -1":          func(c *api.Cycle) { c.Habitats = []api.Habitat{{}, {Need: -1}} },
		"need 7":           func(c *api.Cycle) { c.Habitats = []api.Habitat{{}, {Need: 7}} },
	} {
		c := chapterCycle()
		spoil(&c)
		refuseCycle(t, name, c, api.ErrArg)
	}
	refuseCycle(t, "too many states", tooManyStates(), api.ErrLong)
}

// refuseCycle checks that no function takes a cycle, and that their other results are zero values.
func refuseCycle(t *testing.T, name string, c api.Cycle, want api.Errno) {
	t.Helper()
	ages := beginning(c)
	for i := range c.Coupes {
		ages[i] = 0
	}
	e0 := coupe.Check(c)
	choices, e1 := coupe.Choices(c, ages)
	next, yield, e2 := coupe.Next(c, ages, 0)
	p, after, e3 := coupe.Play(c, nil)
	q, e4 := coupe.Plan(c, 0)
	values, e5 := coupe.Values(c, 0, 0)
	a, b, e6 := coupe.Lasting(c, 0)
	floor, e7 := coupe.Greatest(c)
	ranks, e8 := coupe.Ranks(c, 0)
	for i, e := range []api.Errno{e0, e1, e2, e3, e4, e5, e6, e7, e8} {
		// Some of what spoils a cycle makes its ages wrong, too, but that is the same error.
		if e != want {
			t.Errorf("%s: error %d of function %d", name, e, i)
		}
	}
	many := len(choices) + len(next) + len(p.Choices) + len(p.Yields) + len(after) + len(q.Choices) + len(q.Yields) + len(values) + len(a) + len(b) + len(ranks)
	if many != 0 || yield != 0 || floor != 0 {
		t.Errorf("%s: a result beside an error", name)
	}
	if coupe.Proves(c, 0, 0, 9, []api.CoupeValue{{Ages: beginning(c)}}) || coupe.Ends(c, 0, []api.CoupeRank{{Ages: beginning(c)}}) {
		t.Errorf("%s: a proof", name)
	}
}

func TestChoicesOfTheChapter(t *testing.T) {
	for _, x := range []struct{ ages, want []int }{
		{[]int{2, 1}, []int{0, 1, 2}}, {[]int{0, 2}, []int{2}}, {[]int{3, 2}, nil},
	} {
		if l, e := coupe.Choices(chapterCycle(), x.ages); e != api.OK || !slices.Equal(l, x.want) {
			t.Error(x, l, e)
		}
	}
	if l, y, e := coupe.Next(chapterCycle(), []int{2, 1}, 1); e != api.OK || y != 3 || !slices.Equal(l, []int{0, 2}) {
		t.Error(l, y, e)
	}
}

func TestNextRefusesWhatIsNotAllowed(t *testing.T) {
	for _, choice := range []int{3, 4, 5, 6, -1, -2, 64, math.MinInt, math.MaxInt, math.MinInt + 1} {
		if l, y, e := coupe.Next(chapterCycle(), []int{2, 1}, choice); e != api.ErrRule || len(l) != 0 || y != 0 {
			t.Error(choice, l, y, e)
		}
	}
}

func TestHabitats(t *testing.T) {
	c := chapterCycle()
	c.Hands = 2
	for _, x := range []struct {
		l    []api.Habitat
		want []int
	}{
		{[]api.Habitat{{From: 0, To: 0, Need: 1}}, []int{1, 2, 3}},
		{[]api.Habitat{{From: 0, To: 0, Need: 2}}, []int{3}},
		// There are no coupes but those of the cycle.
		{[]api.Habitat{{From: 0, To: 40, Need: 3}}, nil},
		{[]api.Habitat{{From: 3, To: 3, Need: 1}}, []int{0, 2}},
		{[]api.Habitat{{From: 1, To: 2, Need: 1}}, []int{0, 1}},
		{[]api.Habitat{{From: 2, To: 3, Need: 2}}, []int{0}},
		{[]api.Habitat{{From: 2, To: 2, Need: 1}, {From: 0, To: 0, Need: 1}}, []int{1}},
		{[]api.Habitat{{From: 3, To: 3, Need: 1}, {From: 1, To: 2, Need: 1}}, []int{0}},
		{[]api.Habitat{{From: 40, To: 40}}, []int{0, 1, 2, 3}},
	} {
		c.Habitats = x.l
		if l, e := coupe.Choices(c, []int{2, 1}); e != api.OK || !slices.Equal(l, x.want) {
			t.Error(x, l, e)
		}
	}
}

func TestSixCoupesAreBits(t *testing.T) {
	c := api.Cycle{Coupes: coupesOf(2, 2, 2, 2, 2, 2), Hands: 6}
	ages := []int{2, 1, 0, 1, 0, 2}
	l, e := coupe.Choices(c, ages)
	if e != api.OK || !slices.Equal(l, []int{33, 35, 41, 43}) {
		t.Error(l, e)
	}
	next, y, e := coupe.Next(c, ages, 41)
	if e != api.OK || y != 5 || !slices.Equal(next, []int{0, 2, 1, 0, 1, 0}) {
		t.Error(next, y, e)
	}
	c.Hands = 3
	if l, e := coupe.Choices(c, ages); e != api.OK || !slices.Equal(l, []int{33, 35, 41}) {
		t.Error(l, e)
	}
}

func TestChoicesAndNextAreAsDefined(t *testing.T) {
	r := rand.New(rand.NewSource(1))
	none, several := 0, 0
	for range 1500 {
		c := randomCycle(r, 6)
		ages := beginning(c)
		var want []int
		for choice := -1; choice <= 65; choice++ {
			w, ok := turnOf(c, ages, choice)
			next, yield, e := coupe.Next(c, ages, choice)
			if !ok {
				if e != api.ErrRule || len(next) != 0 || yield != 0 {
					t.Fatal(c, choice, next, yield, e)
				}
				continue
			}
			want = append(want, choice)
			if e != api.OK || yield != w.yield || !slices.Equal(next, w.next) {
				t.Fatal(c, choice, next, yield, e, w)
			}
		}
		if l, e := coupe.Choices(c, ages); e != api.OK || !slices.Equal(l, want) {
			t.Fatal(c, l, e, want)
		}
		if len(want) == 0 {
			none++
		} else if len(want) > 1 {
			several++
		}
	}
	if none < 100 || several < 100 {
		t.Error("these cycles say little:", none, several)
	}
}

func TestAgesThatAreNone(t *testing.T) {
	c := chapterCycle()
	for _, ages := range [][]int{nil, {}, {2}, {2, 1, 0}, {-1, 1}, {2, -1}, {4, 1}, {2, 3}, {math.MaxInt, 0}, {0, math.MinInt}} {
		if l, e := coupe.Choices(c, ages); e != api.ErrArg || len(l) != 0 {
			t.Error(ages, l, e)
		}
		// Ages that are none come before a choice that is not allowed.
		if l, y, e := coupe.Next(c, ages, -1); e != api.ErrArg || len(l) != 0 || y != 0 {
			t.Error(ages, l, y, e)
		}
	}
	// They come before too many states, too.
	for _, ages := range [][]int{nil, {0, 0}, {0, 0, 0, 0}, {0, 0, 35}, {-1, 0, 0}} {
		_, e1 := coupe.Choices(tooManyStates(), ages)
		_, _, e2 := coupe.Next(tooManyStates(), ages, 0)
		if e1 != api.ErrArg || e2 != api.ErrArg {
			t.Error(ages, e1, e2)
		}
	}
	if _, _, e := coupe.Next(tooManyStates(), []int{0, 0, 0}, -1); e != api.ErrLong {
		t.Error(e)
	}
	// The ages of the cycle itself do not matter here, if they are as defined.
	d := at(c, []int{0, 0})
	if l, e := coupe.Choices(d, []int{2, 1}); e != api.OK || !slices.Equal(l, []int{0, 1, 2}) {
		t.Error(l, e)
	}
}
