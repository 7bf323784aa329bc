package fell_test

import (
	"math"
	"math/rand"
	"slices"
	"testing"

	"greenhew/api"
	"greenhew/fell"
)

// yardMap has three compartments beside rides, of which the first one is soft.
const yardMap = "wood 3 2\n1:3:0 2:0:0 3:0:0\nr0 r0 r0\n"

// coupe returns a coupe that one load a day clears.
func coupe(comp, days, rest, until int) api.FellCoupe {
	return api.FellCoupe{Comp: comp, Fell: days, Rest: rest, Load: 50, Loads: 1, Until: until}
}

func TestFelledCoupes(t *testing.T) {
	s := []api.Sky{storm, wet, storm, dry, frost, storm, wet}
	two := []api.FellCoupe{coupe(1, 2, 0, 7), coupe(2, 1, 60, 0)}
	for _, c := range []struct {
		coupes      []api.FellCoupe
		order, want []int
	}{
		{two, []int{0, 1}, []int{4, 5}},
		{two, []int{1, 0}, []int{5, 2}},
		{[]api.FellCoupe{coupe(1, 2, 0, 7), coupe(2, 2, 0, 7)}, []int{0, 1}, []int{4, 7}},
		{[]api.FellCoupe{coupe(1, 4, 0, 7)}, []int{0}, []int{7}},
		{nil, nil, nil},
		{nil, []int{}, nil},
	} {
		if l, err := fell.Felled(s, c.coupes, c.order); err != api.OK || !slices.Equal(l, c.want) {
			t.Error(c, l, err)
		}
	}
	for name, coupes := range map[string][]api.FellCoupe{
		"a coupe that takes too long": {coupe(1, 5, 0, 7)},
		"two that take too long":      {coupe(1, 2, 0, 7), coupe(2, 3, 0, 7)},
	} {
		order := []int{0, 1}[:len(coupes)]
		if l, err := fell.Felled(s, coupes, order); err != api.ErrNone || len(l) != 0 {
			t.Error(name, l, err)
		}
	}
	if l, err := fell.Felled(nil, []api.FellCoupe{coupe(1, 1, 0, 0)}, []int{0}); err != api.ErrNone || len(l) != 0 {
		t.Error(l, err)
	}
	if l, err := fell.Felled(nil, nil, nil); err != api.OK || len(l) != 0 {
		t.Error(l, err)
	}
	if l, err := fell.Felled(always(storm, 60), []api.FellCoupe{coupe(1, 1, 0, 0)}, []int{0}); err != api.ErrNone || len(l) != 0 {
		t.Error(l, err)
	}
	// Felled does not know the map: any compartment may be on it.
	if l, err := fell.Felled(s, []api.FellCoupe{coupe(math.MaxInt, 1, 0, 7)}, []int{0}); err != api.OK || !slices.Equal(l, []int{2}) {
		t.Error(l, err)
	}
}

// plainFelled goes from day to day.
func plainFelled(skies []api.Sky, coupes []api.FellCoupe, order []int) ([]int, bool) {
	var work []int
	for _, k := range order {
		work = append(work, slices.Repeat([]int{k}, coupes[k].Fell)...)
	}
	at := make([]int, len(coupes))
	for day, sky := range skies {
		if sky != storm && len(work) > 0 {
			at[work[0]] = day + 1
			work = work[1:]
		}
	}
	return at, len(work) == 0
}

func TestFelledAgainstTheDays(t *testing.T) {
	r := rand.New(rand.NewSource(11))
	for range 1000 {
		s := randomSeason(r, r.Intn(16))
		coupes := randomCoupes(r, len(s), r.Intn(7))
		order := r.Perm(len(coupes))
		want, ok := plainFelled(s, coupes, order)
		l, err := fell.Felled(s, coupes, order)
		if !ok {
			if err != api.ErrNone || len(l) != 0 {
				t.Fatal(s, coupes, order, l, err)
			}
		} else if err != api.OK || !slices.Equal(l, want) {
			t.Fatal(s, coupes, order, l, err, want)
		}
	}
}

func TestOrdersThatAreNone(t *testing.T) {
	s := always(dry, 10)
	coupes := []api.FellCoupe{coupe(1, 1, 0, 10), coupe(2, 1, 0, 10), coupe(3, 1, 0, 10)}
	for _, order := range [][]int{nil, {0}, {0, 1}, {0, 1, 1}, {0, 1, 3}, {-1, 0, 1}, {1, 2, 3}, {0, 1, 2, 3}, {0, 1, 2, 2}, {0, 0, 1, 2}, {math.MinInt, 0, math.MaxInt}} {
		if l, err := fell.Felled(s, coupes, order); err != api.ErrArg || len(l) != 0 {
			t.Error(order, l, err)
		}
	}
	if l, err := fell.Felled(s, nil, []int{0}); err != api.ErrArg || len(l) != 0 {
		t.Error(l, err)
	}
	if l, err := fell.Felled(s, coupes, []int{2, 0, 1}); err != api.OK || !slices.Equal(l, []int{2, 3, 1}) {
		t.Error(l, err)
	}
}

// wrongCoupes returns coupes that are not as defined in a season of 10 days, and why.
func wrongCoupes() map[string][]api.FellCoupe {
	with := func(change func(c *api.FellCoupe)) []api.FellCoupe {
		l := []api.FellCoupe{coupe(1, 1, 0, 10), coupe(2, 1, 0, 10)}
		change(&l[1])
		return l
	}
	var seven []api.FellCoupe
	for k := range api.FellCoupes + 1 {
		seven = append(seven, coupe(k+1, 1, 0, 10))
	}
	return map[string][]api.FellCoupe{
		"no compartment":     with(func(c *api.FellCoupe) { c.Comp = 0 }),
		"less than none":     with(func(c *api.FellCoupe) { c.Comp = math.MinInt }),
		"the same":           with(func(c *api.FellCoupe) { c.Comp = 1 }),
		"no felling":         with(func(c *api.FellCoupe) { c.Fell = 0 }),
		"too much felling":   with(func(c *api.FellCoupe) { c.Fell = api.FellDays + 1 }),
		"less than no rest":  with(func(c *api.FellCoupe) { c.Rest = -1 }),
		"too much rest":      with(func(c *api.FellCoupe) { c.Rest = api.FellDays + 1 }),
		"the greatest rest":  with(func(c *api.FellCoupe) { c.Rest = math.MaxInt }),
		"no load":            with(func(c *api.FellCoupe) { c.Load = 0 }),
		"too great a load":   with(func(c *api.FellCoupe) { c.Load = 101 }),
		"no loads":           with(func(c *api.FellCoupe) { c.Loads = 0 }),
		"too many loads":     with(func(c *api.FellCoupe) { c.Loads = api.FellLoads + 1 }),
		"before all days":    with(func(c *api.FellCoupe) { c.Until = -1 }),
		"after all days":     with(func(c *api.FellCoupe) { c.Until = 11 }),
		"too many of them":   seven,
		"nothing of a coupe": {{}},
	}
}

func TestCoupesThatAreNone(t *testing.T) {
	m := read(t, yardMap)
	s := always(dry, 10)
	for name, coupes := range wrongCoupes() {
		var order []int
		for k := range coupes {
			order = append(order, k)
		}
		if l, err := fell.Felled(s, coupes, order); err != api.ErrArg || len(l) != 0 {
			t.Error(name, l, err)
		}
		if o, p, end, err := fell.Order(m, 5, s, coupes); err != api.ErrArg || len(o)+len(p)+end != 0 {
			t.Error(name, o, p, end, err)
		}
	}
	limits := []api.FellCoupe{{Comp: 1, Fell: api.FellDays, Rest: api.FellDays, Load: 100, Loads: api.FellLoads, Until: 10}}
	if l, err := fell.Felled(s, limits, []int{0}); err != api.ErrNone || len(l) != 0 {
		t.Error(l, err)
	}
	if o, p, end, err := fell.Order(m, 5, s, limits); err != api.ErrNone || len(o)+len(p)+end != 0 {
		t.Error(o, p, end, err)
	}
	if l, err := fell.Felled(always(dry, 60), limits, []int{0}); err != api.OK || !slices.Equal(l, []int{60}) {
		t.Error(l, err)
	}
}

func TestOrderRefuses(t *testing.T) {
	m, wrong := read(t, yardMap), read(t, yardMap)
	wrong.Cells[5].Comp = 1
	some := []api.FellCoupe{coupe(1, 1, 0, 3)}
	for name, c := range map[string]struct {
		m      api.WoodMap
		yard   int
		skies  []api.Sky
		coupes []api.FellCoupe
	}{
		"no map":                     {api.WoodMap{}, 0, always(dry, 3), some},
		"no map and no coupes":       {api.WoodMap{}, 0, always(dry, 3), nil},
		"a wrong map":                {wrong, 5, always(dry, 3), some},
		"a wrong map and no coupes":  {wrong, 5, always(dry, 3), nil},
		"a yard before all":          {m, -1, always(dry, 3), some},
		"a yard after all":           {m, 6, always(dry, 3), nil},
		"a sky that does not exist":  {m, 5, []api.Sky{dry, 0, dry}, some},
		"one more":                   {m, 5, []api.Sky{dry, dry, frost + 1}, nil},
		"a season that is too long":  {m, 5, always(dry, 61), some},
		"a compartment too many":     {m, 5, always(dry, 3), []api.FellCoupe{coupe(4, 1, 0, 3)}},
		"one after an impossible":    {m, 5, always(dry, 3), []api.FellCoupe{coupe(1, 60, 0, 3), coupe(4, 1, 0, 3)}},
		"wrong, and impossible also": {m, 6, always(storm, 3), some},
	} {
		if o, p, end, err := fell.Order(c.m, c.yard, c.skies, c.coupes); err != api.ErrArg || len(o)+len(p)+end != 0 {
			t.Error(name, o, p, end, err)
		}
	}
}

func TestOrdersThatAreNotPossible(t *testing.T) {
	m := read(t, yardMap)
	far := read(t, "wood 12 1\n1:0:0 2:0:20 2:0:20 2:0:20 2:0:20 2:0:20 2:0:20 2:0:20 2:0:20 2:0:20 2:0:20 2:0:20\n")
	slow := func(loads int) []api.FellCoupe {
		return []api.FellCoupe{{Comp: 1, Fell: 1, Load: 1, Loads: loads, Until: 60}}
	}
	water := read(t, "wood 2 1\n1:0:0 w\n")
	for name, c := range map[string]struct {
		m      api.WoodMap
		yard   int
		skies  []api.Sky
		coupes []api.FellCoupe
	}{
		"too few days":                 {m, 5, always(dry, 2), []api.FellCoupe{coupe(1, 3, 0, 2)}},
		"too many storms":              {m, 5, []api.Sky{dry, storm, dry, storm}, []api.FellCoupe{coupe(1, 3, 0, 4)}},
		"felled too late":              {m, 5, always(dry, 9), []api.FellCoupe{coupe(1, 3, 0, 2)}},
		"dry too late":                 {m, 5, always(dry, 9), []api.FellCoupe{coupe(1, 1, 2, 2)}},
		"ready when all should be":     {m, 5, always(dry, 9), []api.FellCoupe{coupe(1, 1, 2, 3)}},
		"no haul":                      {water, 1, always(dry, 9), []api.FellCoupe{coupe(1, 1, 0, 9)}},
		"no day for the haul":          {m, 5, []api.Sky{dry, storm, storm}, []api.FellCoupe{coupe(1, 1, 0, 3)}},
		"two hauls for one day":        {m, 5, []api.Sky{dry, dry, dry, storm}, []api.FellCoupe{coupe(1, 1, 1, 4), coupe(2, 1, 0, 4), coupe(3, 1, 0, 4)}},
		"a haul that takes too long":   {far, 11, always(frost, 60), slow(60)},
		"and one that takes more than": {far, 11, always(frost, 60), slow(61)},
		"coupes that all come first":   {m, 5, always(dry, 9), []api.FellCoupe{coupe(1, 1, 0, 2), coupe(2, 1, 0, 2)}},
	} {
		if o, p, end, err := fell.Order(c.m, c.yard, c.skies, c.coupes); err != api.ErrNone || len(o)+len(p)+end != 0 {
			t.Error(name, o, p, end, err)
		}
	}
	want := slices.Concat([]int{-1}, make([]int, 59))
	if o, p, end, err := fell.Order(far, 11, always(frost, 60), slow(59)); err != api.OK || end != 60 || !slices.Equal(o, []int{0}) || !slices.Equal(p, want) {
		t.Error(o, p, end, err)
	}
}

func TestBestOrders(t *testing.T) {
	m := read(t, yardMap)
	heavy := api.FellCoupe{Comp: 1, Fell: 1, Load: 94, Loads: 1, Until: 5} // not under a wet sky
	for name, c := range map[string]struct {
		skies       []api.Sky
		coupes      []api.FellCoupe
		order, plan []int
		end         int
	}{
		"all are as good":        {always(dry, 4), []api.FellCoupe{coupe(3, 1, 0, 4), coupe(2, 1, 0, 4), coupe(1, 1, 0, 4)}, []int{0, 1, 2}, []int{-1, 0, 1, 2}, 4},
		"a short felling first":  {always(dry, 5), []api.FellCoupe{coupe(1, 3, 0, 5), coupe(2, 1, 0, 5)}, []int{0, 1}, []int{-1, -1, -1, 0, 1}, 5},
		"if it must be so":       {always(dry, 5), []api.FellCoupe{coupe(1, 3, 0, 5), coupe(2, 1, 0, 4)}, []int{1, 0}, []int{-1, 1, -1, -1, 0}, 5},
		"a long rest first":      {always(dry, 6), []api.FellCoupe{coupe(1, 1, 0, 6), coupe(2, 1, 2, 6)}, []int{1, 0}, []int{-1, -1, 0, 1, -1, -1}, 4},
		"no haul under this sky": {[]api.Sky{dry, dry, wet, frost, dry}, []api.FellCoupe{heavy, coupe(2, 1, 0, 5)}, []int{0, 1}, []int{-1, 0, 1, -1, -1}, 3},
		"nor before the frost":   {[]api.Sky{dry, wet, dry, wet, dry}, []api.FellCoupe{heavy, coupe(2, 1, 0, 5)}, []int{1, 0}, []int{-1, 1, 0, -1, -1}, 3},
		"no felling in a storm":  {[]api.Sky{storm, dry, storm, dry}, []api.FellCoupe{coupe(3, 1, 0, 4)}, []int{0}, []int{-1, -1, -1, 0}, 4},
		"no coupes":              {always(storm, 2), nil, nil, []int{-1, -1}, 0},
		"no coupes and no days":  {nil, nil, nil, nil, 0},
	} {
		o, p, end, err := fell.Order(m, 5, c.skies, c.coupes)
		if err != api.OK || end != c.end || !slices.Equal(o, c.order) || !slices.Equal(p, c.plan) {
			t.Error(name, o, p, end, err)
		}
	}
}

// orders returns all orders of so many coupes in lexicographic order.
func orders(coupes int) [][]int {
	l := [][]int{nil}
	for range coupes {
		var longer [][]int
		for _, order := range l {
			for k := range coupes {
				if !slices.Contains(order, k) {
					longer = append(longer, append(slices.Clone(order), k))
				}
			}
		}
		l = longer
	}
	return l
}

// endIn returns the end of the best plan for an order, that plan, and whether the order is possible.
func endIn(m api.WoodMap, yard int, skies []api.Sky, coupes []api.FellCoupe, order []int) (int, []int, bool) {
	felled, ok := plainFelled(skies, coupes, order)
	if !ok {
		return 0, nil, false
	}
	var jobs []api.FellJob
	for k, c := range coupes {
		j, err := fell.Haul(m, yard, c.Comp, c.Load, c.Loads)
		j.From, j.Until = felled[k]+c.Rest, c.Until
		if err != api.OK || j.Days > api.FellDays || j.From > j.Until {
			return 0, nil, false
		}
		jobs = append(jobs, j)
	}
	plan, end, err := fell.Plan(skies, jobs)
	return end, plan, err == api.OK
}

func TestOrdersAgainstAllOrders(t *testing.T) {
	r := rand.New(rand.NewSource(12))
	found, later := 0, 0
	for range 1200 {
		many := r.Intn(5)
		m := randomMap(r, 4, 4, many)
		skies := randomSeason(r, 4+r.Intn(16))
		for day := range skies {
			skies[day] = max(skies[day], randomSky(r))
		}
		coupes := randomCoupes(r, len(skies), many)
		yard := r.Intn(len(m.Cells))
		var order, plan []int
		least, possible := 0, false
		for _, o := range orders(many) {
			if end, p, ok := endIn(m, yard, skies, coupes, o); ok && (!possible || end < least) {
				order, plan, least, possible = o, p, end, true
			}
		}
		o, p, end, err := fell.Order(m, yard, skies, coupes)
		if !possible {
			if err != api.ErrNone || len(o)+len(p)+end != 0 {
				t.Fatal(m, yard, skies, coupes, o, p, end, err)
			}
			continue
		}
		found++
		if !slices.IsSorted(order) {
			later++
		}
		if err != api.OK || end != least || !slices.Equal(o, order) || !slices.Equal(p, plan) {
			t.Fatal(m, yard, skies, coupes, o, p, end, err, order, plan, least)
		}
	}
	if found < 150 || later < 20 {
		t.Error("so few orders are possible, or are not the first one:", found, later)
	}
}

func TestOrdersOfTheGreatestSize(t *testing.T) {
	r := rand.New(rand.NewSource(13))
	m := randomMap(r, api.WoodSide, api.WoodSide, 0)
	var coupes []api.FellCoupe
	for k := range api.FellCoupes {
		m.Cells[k] = api.WoodCell{Kind: api.CellWood, Comp: k + 1}
		coupes = append(coupes, api.FellCoupe{Comp: k + 1, Fell: 1 + k, Rest: 20 - 2*k, Load: 100, Loads: 100, Until: 60})
	}
	m.Cells[6] = api.WoodCell{Kind: api.CellRide}
	var least int
	for i, o := range orders(api.FellCoupes) {
		if end, _, ok := endIn(m, 6, always(frost, 60), coupes, o); !ok {
			t.Fatal(o)
		} else if i == 0 || end < least {
			least = end
		}
	}
	if o, p, end, err := fell.Order(m, 6, always(frost, 60), coupes); err != api.OK || end != least || len(o) != 6 || len(p) != 60 {
		t.Error(o, p, end, err, least)
	}
}
