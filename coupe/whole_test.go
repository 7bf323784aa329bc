package coupe_test

import (
	"fmt"
	"math/rand"
	"slices"
	"testing"

	"greenhew/api"
	"greenhew/coupe"
)

func TestMoreFreedomNeverMakesThePlanWorse(t *testing.T) {
	r := rand.New(rand.NewSource(16))
	better := map[int]int{}
	for range 8000 {
		c, years := randomCycle(r, 4), 1+r.Intn(8)
		p, e := coupe.Plan(c, years)
		if e != api.OK {
			continue
		}
		d, what := copyOf(c), r.Intn(4)
		k := &d.Coupes[r.Intn(len(d.Coupes))]
		switch what {
		case 0:
			d.Hands = min(6, d.Hands+1+r.Intn(2))
		case 1:
			k.Least = 1 + r.Intn(k.Least)
		case 2:
			if len(d.Habitats) == 0 {
				continue
			}
			i := r.Intn(len(d.Habitats))
			d.Habitats = slices.Delete(d.Habitats, i, i+1)
		case 3:
			for age := range k.Yields {
				k.Yields[age] += r.Intn(4)
			}
		}
		q, e := coupe.Plan(d, years)
		if e != api.OK || comparePlans(q, p) < 0 {
			t.Fatal(c, d, years, p, q, e)
		}
		if comparePlans(q, p) > 0 {
			better[what]++
		}
	}
	if len(better) != 4 {
		t.Error("these cycles say little:", better)
	}
}

func TestAPlanBeginsWithOneForFewerYears(t *testing.T) {
	r := rand.New(rand.NewSource(17))
	for range 1500 {
		c, years := randomCycle(r, 4), 2+r.Intn(8)
		p, e := coupe.Plan(c, years)
		if e != api.OK {
			continue
		}
		fewer := 1 + r.Intn(years-1)
		part, _, e := coupe.Play(c, p.Choices[:fewer])
		if e != api.OK || leastOf(part) < leastOf(p) {
			t.Fatal(c, years, p, fewer, part, e)
		}
		if best, e := coupe.Plan(c, fewer); e != api.OK || comparePlans(best, part) < 0 || leastOf(best) < leastOf(p) {
			t.Fatal(c, years, p, fewer, best, e)
		}
	}
}

func TestNothingLastsThatIsMoreThanAPlan(t *testing.T) {
	r := rand.New(rand.NewSource(18))
	some := 0
	for range 800 {
		c := randomCycle(r, 4)
		floor, e := coupe.Greatest(c)
		if e != api.OK {
			continue
		}
		some++
		for _, years := range []int{1, 2, 3, 10, 30} {
			if p, e := coupe.Plan(c, years); e != api.OK || leastOf(p) < floor {
				t.Fatal(c, floor, years, p, e)
			}
		}
	}
	if some < 100 {
		t.Error("these cycles say little:", some)
	}
}

// answersOf calls all functions for a cycle and standards, and returns all that they say, and the lists in it.
func answersOf(c api.Cycle, s api.Standards, years, floor int) (string, [][]int) {
	ages := beginning(c)
	choices, e1 := coupe.Choices(c, ages)
	next, yield, e2 := coupe.Next(c, ages, 0)
	p, e3 := coupe.Plan(c, years)
	q, after, e4 := coupe.Play(c, p.Choices)
	values, e5 := coupe.Values(c, years, floor)
	proves := coupe.Proves(c, years, floor, 5, values)
	a, b, e6 := coupe.Lasting(c, floor)
	n, e7 := coupe.Greatest(c)
	ranks, e8 := coupe.Ranks(c, floor)
	ends := coupe.Ends(c, floor, ranks)
	felled, most, e9 := coupe.Timber(s, years)
	worth, is := coupe.Worth(s, felled)
	y, e10 := coupe.Yields(hazel(), fair(), 100, 5)
	said := fmt.Sprint(choices, next, yield, p, q, after, values, proves, a, b, n, ranks, ends, felled, most, worth, is, y, e1, e2, e3, e4, e5, e6, e7, e8, e9, e10)
	lists := append(felled, choices, next, p.Choices, p.Yields, q.Choices, q.Yields, after, a, b, y)
	for _, v := range values {
		lists = append(lists, v.Ages)
	}
	for _, x := range ranks {
		lists = append(lists, x.Ages)
	}
	return said, lists
}

func TestArgumentsStayAsTheyAreAndAnswersToo(t *testing.T) {
	r := rand.New(rand.NewSource(19))
	for range 300 {
		c, s, years, floor := randomCycle(r, 4), randomStandards(r), r.Intn(6), r.Intn(3)
		c0, s0 := copyOf(c), copyStandards(s)
		said, lists := answersOf(c, s, years, floor)
		for i, l := range lists {
			l = l[:cap(l)]
			for k := range l {
				l[k] = i
			}
		}
		for i, l := range lists {
			if slices.ContainsFunc(l, func(n int) bool { return n != i }) {
				t.Fatal("answers share memory", c, s, years, floor)
			}
		}
		if !sameCycle(c, c0) || !sameStandards(s, s0) {
			t.Fatal("arguments have been changed", c, c0, s, s0)
		}
		if again, _ := answersOf(c, s, years, floor); again != said {
			t.Fatal("the same arguments have other answers", said, again)
		}
	}
}

func TestTablesAndPlansStayAsTheyAre(t *testing.T) {
	c := chapterCycle()
	values, _ := coupe.Values(c, 2, 0)
	v0 := copyValues(values)
	ranks, felled, ages, choices := chapterRanks(), [][]int{{3, 2, 2}, {0, 1, 1}}, []int{2, 1}, []int{1, 2, 0}
	coupe.Proves(c, 2, 0, 100, values)
	coupe.Ends(c, 1, ranks)
	coupe.Worth(chapterStandards(), felled)
	coupe.Choices(c, ages)
	coupe.Next(c, ages, 1)
	coupe.Play(c, choices)
	if !slices.EqualFunc(values, v0, sameValue) || !slices.EqualFunc(ranks, chapterRanks(), sameRank) || !samePlan(felled, [][]int{{3, 2, 2}, {0, 1, 1}}) {
		t.Error(values, ranks, felled)
	}
	if !slices.Equal(ages, []int{2, 1}) || !slices.Equal(choices, []int{1, 2, 0}) {
		t.Error(ages, choices)
	}
}

func oddList(r *rand.Rand) []int {
	l := make([]int, r.Intn(8))
	for i := range l {
		l[i] = r.Intn(4)
		if r.Intn(12) == 0 {
			l[i] = odd(r)
		}
	}
	return l
}

func oddCycle(r *rand.Rand) api.Cycle {
	c := randomCycle(r, 6)
	k := &c.Coupes[r.Intn(len(c.Coupes))]
	switch r.Intn(14) {
	case 0:
		c.Hands = odd(r)
	case 1:
		c.Coupes = append(c.Coupes, coupesOf(40, 40, 40, 40)...)
	case 2:
		k.Age = odd(r)
	case 3:
		k.Least = odd(r)
	case 4:
		k.Most = odd(r)
	case 5:
		k.Yields = oddList(r)
	case 6:
		c.Habitats = append(c.Habitats, api.Habitat{From: odd(r), To: odd(r), Need: odd(r)})
	case 7:
		c = api.Cycle{Coupes: coupesOf(40, 40, 40), Hands: 2}
	}
	return c
}

func oddStandards(r *rand.Rand) api.Standards {
	s := randomStandards(r)
	switch r.Intn(8) {
	case 0:
		s.Counts = oddList(r)
	case 1:
		s.Keep = oddList(r)
	case 2:
		s.Price = oddList(r)
	case 3:
		s.Recruit = odd(r)
	}
	return s
}

// ageList returns a list that often has an age for each coupe.
func ageList(r *rand.Rand, c api.Cycle) []int {
	if r.Intn(4) == 0 {
		return oddList(r)
	}
	l := beginning(c)
	l[r.Intn(len(l))] = r.Intn(5)
	return l
}

// oddAnswers calls all functions, and returns their errors and whether all their other results are zero values where there is an error.
func oddAnswers(r *rand.Rand) ([]api.Errno, bool) {
	c, s, q := oddCycle(r), oddStandards(r), fair()
	errs, zero := []api.Errno{coupe.Check(c)}, true
	note := func(e api.Errno, none bool) { errs, zero = append(errs, e), zero && (e == api.OK || none) }
	choices, e := coupe.Choices(c, ageList(r, c))
	note(e, len(choices) == 0)
	next, yield, e := coupe.Next(c, ageList(r, c), odd(r))
	note(e, len(next) == 0 && yield == 0)
	p, after, e := coupe.Play(c, append(oddList(r), make([]int, 20*r.Intn(4))...))
	note(e, len(p.Choices)+len(p.Yields)+len(after) == 0)
	p, e = coupe.Plan(c, odd(r))
	note(e, len(p.Choices)+len(p.Yields) == 0)
	values, e := coupe.Values(c, odd(r), odd(r))
	note(e, len(values) == 0)
	a, b, e := coupe.Lasting(c, odd(r))
	note(e, len(a)+len(b) == 0)
	floor, e := coupe.Greatest(c)
	note(e, floor == 0)
	ranks, e := coupe.Ranks(c, odd(r))
	note(e, len(ranks) == 0)
	f, worth, e := coupe.Timber(s, odd(r))
	note(e, len(f) == 0 && worth == 0)
	worth, is := coupe.Worth(s, append(f, oddList(r)))
	zero = zero && (is || worth == 0)
	coupe.Proves(c, odd(r), odd(r), odd(r), append(values, api.CoupeValue{Year: odd(r), Ages: ageList(r, c), Rest: odd(r)}))
	coupe.Ends(c, odd(r), append(ranks, api.CoupeRank{Ages: ageList(r, c), Rank: odd(r)}))
	q.Light.Low, q.Cut = odd(r), r.Intn(3) == 0
	y, e := coupe.Yields(hazel(), q, odd(r), odd(r))
	note(e, len(y) == 0)
	return errs, zero
}

func TestFunctionsAnswerForAllArguments(t *testing.T) {
	r := rand.New(rand.NewSource(20))
	seen := map[api.Errno]int{}
	for range 2000 {
		errs, zero := oddAnswers(r)
		for _, e := range errs {
			seen[e]++
		}
		if !zero {
			t.Fatal("a result beside an error", errs)
		}
	}
	for _, e := range []api.Errno{api.OK, api.ErrArg, api.ErrLong, api.ErrNone, api.ErrState, api.ErrRule} {
		if seen[e] == 0 {
			t.Error("these arguments say little:", seen)
		}
		delete(seen, e)
	}
	if len(seen) != 0 {
		t.Error("errors that no section knows:", seen)
	}
}
