package coupe_test

import (
	"math"
	"math/rand"
	"slices"
	"testing"

	"greenhew/api"
	"greenhew/coupe"
)

func TestPlayOfTheChapter(t *testing.T) {
	choices := []int{1, 2, 0}
	p, ages, e := coupe.Play(chapterCycle(), choices)
	if e != api.OK || !slices.Equal(p.Choices, choices) || !slices.Equal(p.Yields, []int{3, 4, 0}) || !slices.Equal(ages, []int{2, 1}) {
		t.Error(p, ages, e)
	}
	p.Choices[0] = 9
	if choices[0] != 1 {
		t.Error("a plan shares memory with the choices")
	}
}

func TestPlayOfNothing(t *testing.T) {
	for _, l := range [][]int{nil, {}} {
		p, ages, e := coupe.Play(chapterCycle(), l)
		if e != api.OK || len(p.Choices) != 0 || len(p.Yields) != 0 || !slices.Equal(ages, []int{2, 1}) {
			t.Error(p, ages, e)
		}
	}
}

func TestPlayRefuses(t *testing.T) {
	wrong := chapterCycle()
	wrong.Hands = 7
	for name, x := range map[string]struct {
		c       api.Cycle
		choices []int
		want    api.Errno
	}{
		"at once":                   {chapterCycle(), []int{3, 2, 0}, api.ErrRule},
		"later":                     {chapterCycle(), []int{1, 2, 0, 1, 2, 1}, api.ErrRule},
		"a negative one":            {chapterCycle(), []int{1, -2}, api.ErrRule},
		"a great one":               {chapterCycle(), []int{1, 6}, api.ErrRule},
		"too many":                  {chapterCycle(), make([]int, 61), api.ErrLong},
		"too many, and no cycle":    {wrong, make([]int, 61), api.ErrLong},
		"not allowed, and no cycle": {wrong, []int{-1}, api.ErrArg},
		"not allowed, and states":   {tooManyStates(), []int{-1}, api.ErrLong},
	} {
		p, ages, e := coupe.Play(x.c, x.choices)
		if e != x.want || len(p.Choices)+len(p.Yields)+len(ages) != 0 {
			t.Error(name, p, ages, e)
		}
	}
	p, ages, e := coupe.Play(chapterCycle(), slices.Repeat([]int{1, 2, 0}, 20))
	if e != api.OK || !slices.Equal(p.Yields, slices.Repeat([]int{3, 4, 0}, 20)) || !slices.Equal(ages, []int{2, 1}) {
		t.Error(p, ages, e)
	}
}

func TestPlanOfTheChapter(t *testing.T) {
	for _, x := range []struct{ choices, yields []int }{
		{nil, nil}, {[]int{1}, []int{3}}, {[]int{1, 2}, []int{3, 4}}, {[]int{2, 1, 2}, []int{2, 5, 2}},
	} {
		p, e := coupe.Plan(chapterCycle(), len(x.choices))
		if e != api.OK || !slices.Equal(p.Choices, x.choices) || !slices.Equal(p.Yields, x.yields) {
			t.Error(p, e)
		}
	}
}

func TestPlanRefuses(t *testing.T) {
	wrong := chapterCycle()
	wrong.Hands = -1
	idle := chapterCycle()
	idle.Hands = 0
	for name, x := range map[string]struct {
		c     api.Cycle
		years int
		want  api.Errno
	}{
		"too long":               {chapterCycle(), 61, api.ErrLong},
		"much too long":          {chapterCycle(), math.MaxInt, api.ErrLong},
		"negative":               {chapterCycle(), -1, api.ErrArg},
		"very negative":          {chapterCycle(), math.MinInt, api.ErrArg},
		"too long, and no cycle": {wrong, 61, api.ErrLong},
		"negative, and states":   {tooManyStates(), -1, api.ErrArg},
		"states":                 {tooManyStates(), 2, api.ErrLong},
		"without hands":          {idle, 2, api.ErrNone},
	} {
		if p, e := coupe.Plan(x.c, x.years); e != x.want || len(p.Choices)+len(p.Yields) != 0 {
			t.Error(name, p, e)
		}
	}
	if p, e := coupe.Plan(idle, 1); e != api.OK || !slices.Equal(p.Choices, []int{0}) || !slices.Equal(p.Yields, []int{0}) {
		t.Error(p, e)
	}
}

func TestTheLeastYieldComesBeforeTheSum(t *testing.T) {
	c := api.Cycle{Coupes: []api.Coupe{{Age: 1, Yields: []int{0, 2, 9}, Least: 1, Most: 2}, {Age: 1, Yields: []int{0, 2, 9}, Least: 1, Most: 2}}, Hands: 2}
	// Both at once in the second year would be 18, but nothing in the first one.
	if p, e := coupe.Plan(c, 2); e != api.OK || !slices.Equal(p.Choices, []int{1, 2}) || !slices.Equal(p.Yields, []int{2, 9}) {
		t.Error(p, e)
	}
	c.Coupes[1].Yields[1] = 0
	// The second coupe brings nothing yet: to wait with it is the least choice, and brings more, too.
	if p, e := coupe.Plan(c, 2); e != api.OK || !slices.Equal(p.Choices, []int{1, 2}) || !slices.Equal(p.Yields, []int{2, 9}) {
		t.Error(p, e)
	}
}

func TestOfPlansThatAreAsGoodTheFirst(t *testing.T) {
	c := api.Cycle{Coupes: coupesOf(3, 3, 3), Hands: 3}
	for i := range c.Coupes {
		c.Coupes[i].Age, c.Coupes[i].Yields = 1, []int{0, 5, 5, 5}
	}
	if p, e := coupe.Plan(c, 3); e != api.OK || !slices.Equal(p.Choices, []int{3, 4, 3}) || !slices.Equal(p.Yields, []int{10, 5, 10}) {
		t.Error(p, e)
	}
	for i := range c.Coupes {
		clear(c.Coupes[i].Yields)
	}
	if p, e := coupe.Plan(c, 4); e != api.OK || !slices.Equal(p.Choices, []int{0, 0, 7, 0}) || !slices.Equal(p.Yields, []int{0, 0, 0, 0}) {
		t.Error(p, e)
	}
}

func TestNoPlanIsBetterThanTheBest(t *testing.T) {
	r := rand.New(rand.NewSource(2))
	some, none := 0, 0
	for range 6000 {
		c, years := randomCycle(r, 3), r.Intn(7)
		want, ok := firstBest(c, years)
		p, e := coupe.Plan(c, years)
		if !ok {
			none++
			if e != api.ErrNone || len(p.Choices)+len(p.Yields) != 0 {
				t.Fatal(c, years, p, e)
			}
			continue
		}
		some++
		if e != api.OK || !slices.Equal(p.Choices, want.Choices) || !slices.Equal(p.Yields, want.Yields) {
			t.Fatal(c, years, p, e, want)
		}
		q, ages, e := coupe.Play(c, p.Choices)
		if e != api.OK || !slices.Equal(q.Yields, p.Yields) || len(ages) != len(c.Coupes) {
			t.Fatal(c, years, p, q, ages, e)
		}
	}
	if some < 2000 || none < 1000 {
		t.Error("these cycles say little:", some, none)
	}
}

func TestNoPlanIsBetterInWiderWoods(t *testing.T) {
	r := rand.New(rand.NewSource(3))
	for range 2000 {
		c := randomCycle(r, 6)
		want, ok := firstBest(c, 2)
		p, e := coupe.Plan(c, 2)
		if ok != (e == api.OK) || !slices.Equal(p.Choices, want.Choices) || !slices.Equal(p.Yields, want.Yields) {
			t.Fatal(c, p, e, want)
		}
	}
}

func TestPlansForLong(t *testing.T) {
	// One coupe of each age: each year the oldest one is cut.
	c := api.Cycle{Coupes: coupesOf(4, 4, 4, 4, 4), Hands: 1}
	for i := range c.Coupes {
		c.Coupes[i].Age, c.Coupes[i].Least = i, 4
	}
	p, e := coupe.Plan(c, 60)
	if e != api.OK || !slices.Equal(p.Choices, slices.Repeat([]int{16, 8, 4, 2, 1}, 12)) || !slices.Equal(p.Yields, slices.Repeat([]int{4}, 60)) {
		t.Error(p, e)
	}
	// Great yields.
	d := api.Cycle{Coupes: coupesOf(1, 1, 1, 1, 1, 1), Hands: 6}
	for i := range d.Coupes {
		d.Coupes[i].Age, d.Coupes[i].Yields[1] = i%2, 1000000
	}
	p, e = coupe.Plan(d, 60)
	if e != api.OK || !slices.Equal(p.Choices, slices.Repeat([]int{42, 21}, 30)) || !slices.Equal(p.Yields, slices.Repeat([]int{3000000}, 60)) {
		t.Error(p, e)
	}
}

func TestTheGreatestCycle(t *testing.T) {
	r := rand.New(rand.NewSource(4))
	c := api.Cycle{Coupes: coupesOf(6, 6, 6, 6, 6), Hands: 5, Habitats: slices.Repeat([]api.Habitat{{To: 40, Need: 5}}, 10)}
	for i := range c.Coupes {
		c.Coupes[i].Age = i + 2
		for age := range c.Coupes[i].Yields {
			c.Coupes[i].Yields[age] = r.Intn(1000001)
		}
	}
	p, e := coupe.Plan(c, 60)
	if e != api.OK || len(p.Choices) != 60 {
		t.Fatal(p, e)
	}
	m := leastOf(p)
	for _, x := range []struct{ floor, sum int }{{m, sumOf(p.Yields)}, {m + 1, -1}} {
		l, e := coupe.Values(c, 60, x.floor)
		if e != api.OK || l[0].Rest != x.sum || !coupe.Proves(c, 60, x.floor, x.sum, l) {
			t.Error(len(l), e, x)
		}
	}
	floor, e := coupe.Greatest(c)
	if e != api.OK || floor > m {
		t.Error(floor, m, e)
	}
	if l, e := coupe.Ranks(c, floor+1); e != api.OK || !coupe.Ends(c, floor+1, l) {
		t.Error(len(l), e)
	}
}
