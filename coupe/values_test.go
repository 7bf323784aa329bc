package coupe_test

import (
	"cmp"
	"math"
	"math/rand"
	"slices"
	"testing"

	"greenhew/api"
	"greenhew/coupe"
)

func sameValue(a, b api.CoupeValue) bool {
	return a.Year == b.Year && a.Rest == b.Rest && slices.Equal(a.Ages, b.Ages)
}

func copyValues(l []api.CoupeValue) []api.CoupeValue {
	l = slices.Clone(l)
	for i := range l {
		l[i].Ages = slices.Clone(l[i].Ages)
	}
	return l
}

func TestValuesOfTheChapter(t *testing.T) {
	l, e := coupe.Values(chapterCycle(), 2, 3)
	want := []api.CoupeValue{{Year: 0, Ages: []int{2, 1}, Rest: 7}, {Year: 1, Ages: []int{0, 2}, Rest: 4}, {Year: 2, Ages: []int{1, 0}}}
	if e != api.OK || !slices.EqualFunc(l, want, sameValue) {
		t.Error(l, e)
	}
	l, e = coupe.Values(chapterCycle(), 2, 4)
	if e != api.OK || !slices.EqualFunc(l, []api.CoupeValue{{Ages: []int{2, 1}, Rest: -1}}, sameValue) {
		t.Error(l, e)
	}
}

func TestValuesForNoYears(t *testing.T) {
	for _, floor := range []int{0, 5, math.MaxInt} {
		l, e := coupe.Values(chapterCycle(), 0, floor)
		if e != api.OK || !slices.EqualFunc(l, []api.CoupeValue{{Ages: []int{2, 1}}}, sameValue) {
			t.Error(floor, l, e)
		}
		if !coupe.Proves(chapterCycle(), 0, floor, 0, l) || coupe.Proves(chapterCycle(), 0, floor, -1, l) {
			t.Error("proofs for no years")
		}
		l[0].Rest = -1
		if coupe.Proves(chapterCycle(), 0, floor, 0, l) || coupe.Proves(chapterCycle(), 0, floor, -1, l) {
			t.Error("a last year without a value")
		}
	}
}

// valuesOf goes year by year through all ages that are reached, and through all plans from there.
func valuesOf(c api.Cycle, years, floor int) []api.CoupeValue {
	var l []api.CoupeValue
	now := [][]int{beginning(c)}
	for year := range years + 1 {
		var next [][]int
		for _, ages := range now {
			l = append(l, api.CoupeValue{Year: year, Ages: ages, Rest: greatestSum(at(c, ages), years-year, floor)})
			for _, t := range turns(c, ages, floor) {
				next = append(next, t.next)
			}
		}
		slices.SortFunc(next, slices.Compare)
		now = slices.CompactFunc(next, slices.Equal)
	}
	return l
}

func TestValuesAreAsDefined(t *testing.T) {
	r := rand.New(rand.NewSource(5))
	dead := 0
	for range 4000 {
		c, years, floor := randomCycle(r, 3), r.Intn(5), r.Intn(5)
		want := valuesOf(c, years, floor)
		l, e := coupe.Values(c, years, floor)
		if e != api.OK || !slices.EqualFunc(l, want, sameValue) {
			t.Fatal(c, years, floor, l, e, want)
		}
		if l[0].Rest == -1 && len(l) > 1 {
			dead++
		}
		if !coupe.Proves(c, years, floor, l[0].Rest, l) {
			t.Fatal("the table of Values proves its first value", c, years, floor, l)
		}
	}
	if dead < 400 {
		t.Error("these cycles say little:", dead)
	}
}

func TestTwoTablesProveTheBestPlan(t *testing.T) {
	r := rand.New(rand.NewSource(6))
	some := 0
	for range 1000 {
		c, years := randomCycle(r, 5), 1+r.Intn(12)
		p, e := coupe.Plan(c, years)
		if e == api.ErrNone {
			l, e := coupe.Values(c, years, 0)
			if e != api.OK || !coupe.Proves(c, years, 0, -1, l) {
				t.Fatal(c, years, l, e)
			}
			continue
		}
		some++
		m, sum := leastOf(p), sumOf(p.Yields)
		l1, e1 := coupe.Values(c, years, m)
		l2, e2 := coupe.Values(c, years, m+1)
		if e1 != api.OK || e2 != api.OK || !coupe.Proves(c, years, m, sum, l1) || !coupe.Proves(c, years, m+1, -1, l2) {
			t.Fatal(c, years, p, l1, l2)
		}
		if coupe.Proves(c, years, m, sum-1, l1) {
			t.Fatal("less than the best plan", c, years, p, l1)
		}
	}
	if some < 250 {
		t.Error("these cycles say little:", some)
	}
}

func TestValuesRefuses(t *testing.T) {
	wrong := chapterCycle()
	wrong.Coupes[0].Age = 4
	for name, x := range map[string]struct {
		c            api.Cycle
		years, floor int
		want         api.Errno
	}{
		"too long":                {chapterCycle(), 61, 0, api.ErrLong},
		"negative years":          {chapterCycle(), -1, 0, api.ErrArg},
		"a negative floor":        {chapterCycle(), 2, -1, api.ErrArg},
		"a very negative floor":   {chapterCycle(), 2, math.MinInt, api.ErrArg},
		"too long, and no cycle":  {wrong, 61, -1, api.ErrLong},
		"negative, and states":    {tooManyStates(), -1, 0, api.ErrArg},
		"floor, and states":       {tooManyStates(), 2, -1, api.ErrArg},
		"too many years, states":  {tooManyStates(), 61, 0, api.ErrLong},
		"states and nothing else": {tooManyStates(), 2, 0, api.ErrLong},
	} {
		if l, e := coupe.Values(x.c, x.years, x.floor); e != x.want || len(l) != 0 {
			t.Error(name, l, e)
		}
	}
	l, e := coupe.Values(chapterCycle(), 2, math.MaxInt)
	if e != api.OK || !slices.EqualFunc(l, []api.CoupeValue{{Ages: []int{2, 1}, Rest: -1}}, sameValue) {
		t.Error(l, e)
	}
}

func TestProvesOfTheChapter(t *testing.T) {
	c := chapterCycle()
	l, _ := coupe.Values(c, 2, 3)
	whole, _ := coupe.Values(c, 2, 0)
	if !coupe.Proves(c, 2, 3, 7, l) || !coupe.Proves(c, 2, 3, 8, l) || !coupe.Proves(c, 2, 3, math.MaxInt, l) {
		t.Error("the table proves 7")
	}
	for name, no := range map[string]bool{
		"less":                 coupe.Proves(c, 2, 3, 6, l),
		"a lower floor":        coupe.Proves(c, 2, 2, 7, l),
		"fewer years":          coupe.Proves(c, 1, 3, 7, l),
		"more years":           coupe.Proves(c, 3, 0, 100, whole),
		"too many years":       coupe.Proves(c, 61, 3, 7, l),
		"negative years":       coupe.Proves(c, -1, 3, 7, l),
		"a negative floor":     coupe.Proves(c, 2, -1, 100, whole),
		"less than nothing":    coupe.Proves(c, 2, 3, -2, l),
		"without the last one": coupe.Proves(c, 2, 3, 7, l[:2]),
		"without the first":    coupe.Proves(c, 2, 3, 7, l[1:]),
		"without any":          coupe.Proves(c, 2, 3, 7, nil),
		"other ages":           coupe.Proves(at(c, []int{2, 0}), 2, 3, 7, l),
	} {
		if no {
			t.Error(name)
		}
	}
}

func TestTablesThatAreNone(t *testing.T) {
	c := chapterCycle()
	good, _ := coupe.Values(c, 2, 0)
	if !coupe.Proves(c, 2, 0, 100, good) {
		t.Fatal(good)
	}
	for name, spoil := range map[string]func(l []api.CoupeValue) []api.CoupeValue{
		"turned round":       func(l []api.CoupeValue) []api.CoupeValue { slices.Reverse(l); return l },
		"twice the same":     func(l []api.CoupeValue) []api.CoupeValue { return slices.Insert(l, 1, l[1]) },
		"two ages exchanged": func(l []api.CoupeValue) []api.CoupeValue { l[1], l[2] = l[2], l[1]; return l },
		"year -1": func(l []api.CoupeValue) []api.CoupeValue {
			return slices.Insert(l, 0, api.CoupeValue{Year: -1, Ages: []int{0, 0}})
		},
		"year 3": func(l []api.CoupeValue) []api.CoupeValue {
			return append(l, api.CoupeValue{Year: 3, Ages: []int{0, 0}})
		},
		"a year far on": func(l []api.CoupeValue) []api.CoupeValue {
			return append(l, api.CoupeValue{Year: 65536 + 2, Ages: []int{3, 2}})
		},
		"an age too many": func(l []api.CoupeValue) []api.CoupeValue { l[0].Ages = []int{2, 1, 0}; return l },
		"an age too few":  func(l []api.CoupeValue) []api.CoupeValue { return append(l, api.CoupeValue{Year: 2, Ages: []int{3}}) },
		"no ages":         func(l []api.CoupeValue) []api.CoupeValue { return slices.Insert(l, 0, api.CoupeValue{}) },
		"an age above most": func(l []api.CoupeValue) []api.CoupeValue {
			return append(l, api.CoupeValue{Year: 2, Ages: []int{4, 0}})
		},
		"an age far above": func(l []api.CoupeValue) []api.CoupeValue {
			return append(l, api.CoupeValue{Year: 2, Ages: []int{256 + 3, 2}})
		},
		"an age -1": func(l []api.CoupeValue) []api.CoupeValue {
			return slices.Insert(l, 0, api.CoupeValue{Ages: []int{-1, 0}, Rest: 100})
		},
		"rest -2": func(l []api.CoupeValue) []api.CoupeValue {
			return slices.Insert(l, 0, api.CoupeValue{Ages: []int{1, 0}, Rest: -2})
		},
		"rest -1 at the end": func(l []api.CoupeValue) []api.CoupeValue { l[len(l)-1].Rest = -1; return l },
		"a value out of place": func(l []api.CoupeValue) []api.CoupeValue {
			return slices.Insert(l, 0, api.CoupeValue{Ages: []int{0, 0}, Rest: 100})
		},
	} {
		l := spoil(copyValues(good))
		if coupe.Proves(c, 2, 0, 100, l) {
			t.Error(name, l)
		}
	}
}

func TestTablesThatSayMoreThanTheyMust(t *testing.T) {
	c := chapterCycle()
	var l []api.CoupeValue
	for year := range 3 {
		for _, ages := range allAges(c) {
			l = append(l, api.CoupeValue{Year: year, Ages: ages, Rest: (2 - year) * 9})
		}
	}
	if !coupe.Proves(c, 2, 0, 18, l) || !coupe.Proves(c, 2, 3, 18, l) || coupe.Proves(c, 2, 0, 17, l) {
		t.Error("a table of all ages")
	}
	// Also what is not reached has to be right.
	for i, v := range l {
		m := slices.Clone(l)
		m[i].Rest = -1
		rightly := v.Year < 2 && len(turns(c, v.Ages, 0)) == 0
		if coupe.Proves(c, 2, 0, 18, m) != rightly {
			t.Error(m[i])
		}
	}
}

func TestGreatNumbersInTables(t *testing.T) {
	c := chapterCycle()
	great := []api.CoupeValue{{Year: 0, Ages: []int{2, 1}, Rest: math.MaxInt}, {Year: 1, Ages: []int{0, 2}, Rest: math.MaxInt - 3}, {Year: 2, Ages: []int{1, 0}, Rest: math.MaxInt - 7}}
	if !coupe.Proves(c, 2, 3, math.MaxInt, great) || coupe.Proves(c, 2, 3, math.MaxInt-1, great) {
		t.Error("great values")
	}
	great[1].Rest++
	if coupe.Proves(c, 2, 3, math.MaxInt, great) {
		t.Error("a sum beyond all integers")
	}
	great[1].Rest, great[2].Rest = math.MaxInt-3, math.MaxInt
	if coupe.Proves(c, 2, 3, math.MaxInt, great) {
		t.Error("another sum beyond all integers")
	}
}

func TestTablesThatAreTooLong(t *testing.T) {
	c := api.Cycle{Coupes: coupesOf(39, 24, 19)}
	all := allAges(c)
	long := make([]api.CoupeValue, 0, 61*20000+1)
	for year := range 61 {
		for _, ages := range all {
			long = append(long, api.CoupeValue{Year: year, Ages: ages})
		}
	}
	if len(long) != 61*20000 || !coupe.Proves(c, 60, 0, 0, long) {
		t.Error("a table with a value for each year and all ages")
	}
	long = append(long, api.CoupeValue{Year: 61, Ages: all[0]})
	if coupe.Proves(c, 60, 0, 0, long) {
		t.Error("a table that is too long")
	}
}

// provesOf follows the definition of a table and of what it proves word for word.
func provesOf(c api.Cycle, years, floor, sum int, l []api.CoupeValue) bool {
	find := func(year int, ages []int) (int, bool) {
		for _, v := range l {
			if v.Year == year && slices.Equal(v.Ages, ages) {
				return v.Rest, true
			}
		}
		return 0, false
	}
	for i, v := range l {
		if v.Rest < -1 || v.Year == years && v.Rest == -1 {
			return false
		}
		if i > 0 && cmp.Or(cmp.Compare(l[i-1].Year, v.Year), slices.Compare(l[i-1].Ages, v.Ages)) != -1 {
			return false
		}
		if v.Year == years {
			continue
		}
		for _, t := range turns(c, v.Ages, floor) {
			rest, ok := find(v.Year+1, t.next)
			if !ok || rest != -1 && rest+t.yield > v.Rest {
				return false
			}
		}
	}
	rest, ok := find(0, beginning(c))
	return ok && rest <= sum
}

func TestWhatATableProvesIsRight(t *testing.T) {
	r := rand.New(rand.NewSource(7))
	yes, no := 0, 0
	for range 20000 {
		c, years, floor := randomCycle(r, 2), r.Intn(4), r.Intn(4)
		l, _ := coupe.Values(c, years, floor)
		sum := l[0].Rest + r.Intn(3) - 1
		for range r.Intn(3) {
			if len(l) == 0 {
				break
			}
			switch i := r.Intn(len(l)); r.Intn(5) {
			case 0:
				l = slices.Delete(l, i, i+1)
			case 1:
				l[i].Rest++
			case 2:
				l[i].Rest--
			case 3:
				k := r.Intn(len(c.Coupes))
				l[i].Ages[k] = r.Intn(c.Coupes[k].Most + 1)
			case 4:
				floor++
			}
		}
		proves := coupe.Proves(c, years, floor, sum, l)
		if proves != (sum >= -1 && provesOf(c, years, floor, sum, l)) {
			t.Fatal(c, years, floor, sum, l, proves)
		}
		if !proves {
			no++
			continue
		}
		yes++
		if best := greatestSum(c, years, floor); best > sum {
			t.Fatal(c, years, floor, sum, l, best)
		}
	}
	if yes < 5000 || no < 5000 {
		t.Error("these tables say little:", yes, no)
	}
}
