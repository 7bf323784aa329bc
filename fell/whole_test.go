package fell_test

import (
	"math"
	"math/rand"
	"slices"
	"testing"

	"greenhew/api"
	"greenhew/fell"
)

// wrongJobs returns jobs that are not as defined in a season of 10 days.
func wrongJobs() []api.FellJob {
	return []api.FellJob{
		{},
		{Days: 0, From: 0, Until: 10, Least: dry},
		{Days: -1, From: 0, Until: 10, Least: dry},
		{Days: api.FellDays + 1, From: 0, Until: 10, Least: dry},
		{Days: math.MaxInt, From: 0, Until: 10, Least: dry},
		{Days: 1, From: -1, Until: 10, Least: dry},
		{Days: 1, From: 5, Until: 4, Least: dry},
		{Days: 1, From: 11, Until: 11, Least: dry},
		{Days: 1, From: 0, Until: 11, Least: dry},
		{Days: 1, From: 0, Until: -1, Least: dry},
		{Days: 1, From: -1, Until: -1, Least: dry},
		{Days: 1, From: 0, Until: 10, Least: 0},
		{Days: 1, From: 0, Until: 10, Least: frost + 1},
		{Days: 1, From: 0, Until: 10, Least: math.MinInt},
		{Days: 1, From: math.MinInt, Until: math.MaxInt, Least: math.MaxInt},
	}
}

// refused checks that all functions for a season and jobs refuse them.
func refused(t *testing.T, s []api.Sky, jobs []api.FellJob) {
	t.Helper()
	if err := fell.Check(s, jobs); err != api.ErrArg {
		t.Error(s, jobs, err)
	}
	if end, ok := fell.Right(s, jobs, idle(len(s))); ok || end != 0 {
		t.Error(s, jobs, end, ok)
	}
	if plan, end, err := fell.Plan(s, jobs); err != api.ErrArg || len(plan)+end != 0 {
		t.Error(s, jobs, plan, end, err)
	}
	if n, err := fell.Lacks(s, jobs, nil); err != api.ErrArg || n != 0 {
		t.Error(s, jobs, n, err)
	}
	if set, n, err := fell.Proof(s, jobs); err != api.ErrArg || len(set)+n != 0 {
		t.Error(s, jobs, set, n, err)
	}
	if n, set, err := fell.Spare(s, jobs); err != api.ErrArg || len(set)+n != 0 {
		t.Error(s, jobs, n, set, err)
	}
}

func TestSeasonsAndJobsThatAreNone(t *testing.T) {
	right := api.FellJob{Days: 60, From: 0, Until: 10, Least: storm}
	for _, wrong := range wrongJobs() {
		refused(t, always(dry, 10), []api.FellJob{wrong})
		refused(t, always(dry, 10), []api.FellJob{right, wrong})
		refused(t, always(dry, 10), []api.FellJob{wrong, right})
	}
	for _, sky := range []api.Sky{0, -1, frost + 1, math.MinInt, math.MaxInt} {
		refused(t, []api.Sky{sky}, nil)
		refused(t, []api.Sky{dry, sky, dry}, []api.FellJob{{Days: 1, Until: 3, Least: dry}})
		if l, err := fell.Felled([]api.Sky{sky}, nil, nil); err != api.ErrArg || len(l) != 0 {
			t.Error(sky, l, err)
		}
	}
	refused(t, always(dry, api.FellDays+1), nil)
	if l, err := fell.Felled(always(dry, api.FellDays+1), nil, nil); err != api.ErrArg || len(l) != 0 {
		t.Error(l, err)
	}
	refused(t, always(dry, 10), slices.Repeat([]api.FellJob{right}, api.FellJobs+1))
}

func TestSeasonsAndJobsAtTheirLimits(t *testing.T) {
	for _, c := range []struct {
		days int
		jobs []api.FellJob
	}{
		{0, nil},
		{0, []api.FellJob{{Days: 1, Least: storm}}},
		{10, []api.FellJob{{Days: 1, From: 10, Until: 10, Least: storm}, {Days: 60, From: 0, Until: 0, Least: frost}}},
		{60, slices.Repeat([]api.FellJob{{Days: 60, From: 0, Until: 60, Least: frost}}, api.FellJobs)},
	} {
		for _, sky := range skiesFromTheWorst {
			if err := fell.Check(always(sky, c.days), c.jobs); err != api.OK {
				t.Error(c, sky, err)
			}
		}
	}
}

// call is all arguments of the layer's functions together.
type call struct {
	m                       api.WoodMap
	skies                   []api.Sky
	jobs                    []api.FellJob
	list                    []int
	forecast                []api.Forecast
	coupes                  []api.FellCoupe
	yard, comp, load, loads int
	sky                     api.Sky
}

func (c call) copy() call {
	c.m = copyOf(c.m)
	c.skies, c.jobs, c.list = slices.Clone(c.skies), slices.Clone(c.jobs), slices.Clone(c.list)
	c.forecast, c.coupes = slices.Clone(c.forecast), slices.Clone(c.coupes)
	return c
}

func (c call) equal(o call) bool {
	return slices.Equal(c.m.Cells, o.m.Cells) && slices.Equal(c.skies, o.skies) && slices.Equal(c.jobs, o.jobs) && slices.Equal(c.list, o.list) &&
		slices.Equal(c.forecast, o.forecast) && slices.Equal(c.coupes, o.coupes)
}

// answer is what a function returned: numbers, lists and its error. The error of Right is -1 if it returned false.
type answer struct {
	err     api.Errno
	numbers []int
	lists   [][]int
}

func (a answer) equal(o answer) bool {
	return a.err == o.err && slices.Equal(a.numbers, o.numbers) && slices.EqualFunc(a.lists, o.lists, slices.Equal)
}

// isZero reports whether all of an answer is its zero value, but for the error.
func (a answer) isZero() bool {
	return !slices.ContainsFunc(a.numbers, func(n int) bool { return n != 0 }) &&
		!slices.ContainsFunc(a.lists, func(l []int) bool { return len(l) > 0 })
}

// asked returns the answers of all functions.
func (c call) asked() []answer {
	var l []answer
	note := func(err api.Errno, numbers []int, lists ...[]int) { l = append(l, answer{err, numbers, lists}) }
	note(fell.Check(c.skies, c.jobs), nil)
	end, ok := fell.Right(c.skies, c.jobs, c.list)
	note(map[bool]api.Errno{true: api.OK, false: -1}[ok], []int{end})
	plan, end, err := fell.Plan(c.skies, c.jobs)
	note(err, []int{end}, plan)
	n, err := fell.Lacks(c.skies, c.jobs, c.list)
	note(err, []int{n})
	set, n, err := fell.Proof(c.skies, c.jobs)
	note(err, []int{n}, set)
	n, set, err = fell.Spare(c.skies, c.jobs)
	note(err, []int{n}, set)
	worst, err := fell.Worst(c.forecast)
	var skies []int
	for _, s := range worst {
		skies = append(skies, int(s))
	}
	note(err, nil, skies)
	sure, err := fell.Sure(c.forecast, c.jobs, c.list)
	note(err, []int{map[bool]int{true: 1}[sure]})
	n, err = fell.Loads(c.m, c.yard, c.comp, c.load, c.sky)
	note(err, []int{n})
	j, err := fell.Haul(c.m, c.yard, c.comp, c.load, c.loads)
	note(err, []int{j.Days, j.From, j.Until, int(j.Least)})
	felled, err := fell.Felled(c.skies, c.coupes, c.list)
	note(err, nil, felled)
	order, plan, end, err := fell.Order(c.m, c.yard, c.skies, c.coupes)
	note(err, []int{end}, order, plan)
	return l
}

// randomCall returns arguments that are as defined.
func randomCall(r *rand.Rand) call {
	days, comps := 1+r.Intn(12), 1+r.Intn(3)
	return call{
		m: randomMap(r, 3, 3, comps), skies: randomSeason(r, days), jobs: randomJobs(r, days, r.Intn(4), 2), list: r.Perm(comps),
		forecast: randomForecast(r, days), coupes: randomCoupes(r, days, comps),
		yard: r.Intn(9), comp: 1 + r.Intn(comps), load: 1 + r.Intn(100), loads: 1 + r.Intn(200), sky: randomSky(r),
	}
}

// spoil puts something odd into arguments.
func spoil(r *rand.Rand, c *call) {
	switch r.Intn(9) {
	case 0:
		c.m.Width = odd(r)
	case 1:
		c.m.Cells[r.Intn(9)] = api.WoodCell{Kind: api.CellKind(odd(r)), Comp: odd(r), Soft: odd(r), Stools: odd(r)}
	case 2:
		c.skies[r.Intn(len(c.skies))] = api.Sky(odd(r))
	case 3:
		c.jobs = append(c.jobs, api.FellJob{Days: odd(r), From: odd(r), Until: odd(r), Least: api.Sky(odd(r))})
	case 4:
		c.list = oddInts(r)
	case 5:
		c.forecast[r.Intn(len(c.forecast))] = api.Forecast{Low: api.Sky(odd(r)), High: api.Sky(odd(r))}
	case 6:
		c.coupes = append(c.coupes, api.FellCoupe{Comp: odd(r), Fell: odd(r), Rest: odd(r), Load: odd(r), Loads: odd(r), Until: odd(r)})
	case 7:
		c.skies, c.forecast = randomSeason(r, max(0, min(odd(r), 100))), nil
	default:
		c.yard, c.comp, c.load, c.loads, c.sky = odd(r), odd(r), odd(r), odd(r), api.Sky(odd(r))
	}
}

func TestFunctionsAnswerForAllArguments(t *testing.T) {
	r := rand.New(rand.NewSource(14))
	for range 5000 {
		c := randomCall(r)
		for range r.Intn(3) {
			if len(c.skies) > 0 && len(c.forecast) > 0 && len(c.m.Cells) == 9 {
				spoil(r, &c)
			}
		}
		before := c.copy()
		l := c.asked()
		if !c.equal(before) {
			t.Fatal("arguments have changed:", before, c)
		}
		for i, a := range l {
			if a.err != api.OK && a.err != api.ErrArg && a.err != api.ErrNone && (i != 1 || a.err != -1) || a.err != api.OK && !a.isZero() {
				t.Fatal(before, i, a)
			}
		}
	}
}

func TestResultsAreNewMemory(t *testing.T) {
	r := rand.New(rand.NewSource(15))
	for range 300 {
		c := randomCall(r)
		before, first := c.copy(), c.asked()
		second := c.asked()
		for i, a := range first {
			if !a.equal(second[i]) {
				t.Fatal("not the same again:", before, i, a, second[i])
			}
			// Each list is filled with a number of its own, as far as its memory goes.
			for k, l := range a.lists {
				l = l[:cap(l)]
				for x := range l {
					l[x] = -7 - k
				}
			}
			for k, l := range a.lists {
				if slices.ContainsFunc(l, func(n int) bool { return n != -7-k }) {
					t.Fatal("results share memory:", before, i, a)
				}
			}
		}
		third := c.asked()
		if !c.equal(before) || !slices.EqualFunc(second, third, answer.equal) {
			t.Fatal("a result shares memory with arguments or others:", before, c)
		}
	}
}
