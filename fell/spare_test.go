package fell_test

import (
	"math"
	"math/rand"
	"slices"
	"testing"

	"greenhew/api"
	"greenhew/fell"
)

func TestLacksOfTheChapter(t *testing.T) {
	for name, c := range map[string]struct {
		days int
		set  []int
		want int
	}{
		"no job":                {2, nil, 0},
		"an empty list":         {2, []int{}, 0},
		"the job 0":             {2, []int{0}, -1},
		"the job 1":             {2, []int{1}, -1},
		"both":                  {2, []int{0, 1}, -1},
		"both, with a day more": {3, []int{0, 1}, 0},
		"the job 0 with 4 days": {4, []int{0}, 1},
		"the job 0 with 60":     {60, []int{0}, 57},
	} {
		if n, err := fell.Lacks(chapterSeason(), chapterJobs(c.days), c.set); err != api.OK || n != c.want {
			t.Error(name, n, err)
		}
	}
}

func TestSetsThatAreNone(t *testing.T) {
	for _, set := range [][]int{{1, 0}, {0, 0}, {1, 1}, {2}, {0, 2}, {-1}, {-1, 0}, {0, 1, 2}, {0, 1, 1}, {math.MinInt}, {math.MaxInt}, {1, math.MinInt}} {
		if n, err := fell.Lacks(chapterSeason(), chapterJobs(2), set); err != api.ErrArg || n != 0 {
			t.Error(set, n, err)
		}
	}
	if n, err := fell.Lacks(chapterSeason(), nil, []int{0}); err != api.ErrArg || n != 0 {
		t.Error(n, err)
	}
}

func TestProofsOfTheChapter(t *testing.T) {
	for days, want := range map[int][]int{2: nil, 3: nil, 4: {0}} {
		set, n, err := fell.Proof(chapterSeason(), chapterJobs(days))
		if err != api.OK || n != max(0, days-3) || !slices.Equal(set, want) {
			t.Error(days, set, n, err)
		}
	}
	if set, n, err := fell.Proof(chapterSeason(), nil); err != api.OK || len(set)+n != 0 {
		t.Error(set, n, err)
	}
	if set, n, err := fell.Proof(nil, []api.FellJob{{Days: 2, Least: storm}, {Days: 1, Least: frost}}); err != api.OK || n != 3 || !slices.Equal(set, []int{0, 1}) {
		t.Error(set, n, err)
	}
}

func TestProofIsContainedInAllOthers(t *testing.T) {
	one := func(days, from, until int) api.FellJob {
		return api.FellJob{Days: days, From: from, Until: until, Least: storm}
	}
	for name, c := range map[string]struct {
		jobs []api.FellJob
		want []int
		n    int
	}{
		"a job that lacks nothing stays out": {[]api.FellJob{one(1, 0, 1), one(3, 1, 3)}, []int{1}, 1},
		"also before one that lacks":         {[]api.FellJob{one(3, 1, 3), one(1, 0, 1)}, []int{0}, 1},
		"two that share their day":           {[]api.FellJob{one(1, 0, 1), one(1, 2, 4), one(1, 0, 1)}, []int{0, 2}, 1},
		"all that lack":                      {[]api.FellJob{one(2, 0, 1), one(4, 1, 3)}, []int{0, 1}, 3},
	} {
		set, n, err := fell.Proof(always(dry, 4), c.jobs)
		if err != api.OK || n != c.n || !slices.Equal(set, c.want) {
			t.Error(name, set, n, err)
		}
	}
}

func contains(set, other []int) bool {
	return !slices.ContainsFunc(other, func(k int) bool { return !slices.Contains(set, k) })
}

func TestProofsAgainstAllSets(t *testing.T) {
	r := rand.New(rand.NewSource(5))
	lacking := 0
	for range 1000 {
		s := randomSeason(r, r.Intn(20))
		jobs := randomJobs(r, len(s), r.Intn(7), 6)
		proof, most, err := fell.Proof(s, jobs)
		if err != api.OK || !slices.IsSorted(proof) || lacksOf(s, jobs, proof) != most {
			t.Fatal(s, jobs, proof, most, err)
		}
		for _, set := range setsOf(len(jobs)) {
			n, err := fell.Lacks(s, jobs, set)
			if err != api.OK || n != lacksOf(s, jobs, set) {
				t.Fatal(s, jobs, set, n, err)
			}
			if n > most || n == most && !contains(set, proof) {
				t.Fatal(s, jobs, set, n, proof, most)
			}
		}
		if _, _, err := fell.Plan(s, jobs); (err == api.OK) != (most == 0) {
			t.Fatal(s, jobs, proof, most, err)
		}
		if most > 0 {
			lacking++
		}
	}
	if lacking < 200 || lacking > 950 {
		t.Error("so many seasons have no plan:", lacking)
	}
}

func TestSpareDaysOfTheChapter(t *testing.T) {
	for days, want := range map[int]int{2: 1, 3: 0} {
		n, set, err := fell.Spare(chapterSeason(), chapterJobs(days))
		if err != api.OK || n != want || !slices.Equal(set, []int{0}) {
			t.Error(days, n, set, err)
		}
	}
	for name, jobs := range map[string][]api.FellJob{"no jobs": nil, "no plan": chapterJobs(4)} {
		if n, set, err := fell.Spare(chapterSeason(), jobs); err != api.ErrNone || len(set)+n != 0 {
			t.Error(name, n, set, err)
		}
	}
}

func TestTightSetComesFirst(t *testing.T) {
	one := func(days, from, until int) api.FellJob {
		return api.FellJob{Days: days, From: from, Until: until, Least: storm}
	}
	for name, c := range map[string]struct {
		jobs []api.FellJob
		want []int
		n    int
	}{
		"a shorter list before a longer one":         {[]api.FellJob{one(1, 0, 2), one(1, 2, 3)}, []int{1}, 0},
		"a longer list of lesser numbers before one": {[]api.FellJob{one(1, 0, 3), one(2, 0, 3), one(3, 3, 6)}, []int{0, 1}, 0},
		"the beginning of a list before it":          {[]api.FellJob{one(2, 0, 3), one(1, 3, 5), one(1, 2, 3)}, []int{0, 2}, 0},
		"all alike":                                  {[]api.FellJob{one(1, 0, 2), one(1, 2, 4), one(1, 4, 6)}, []int{0}, 1},
		"all together":                               {[]api.FellJob{one(1, 0, 3), one(1, 0, 3), one(1, 0, 3)}, []int{0, 1, 2}, 0},
	} {
		n, set, err := fell.Spare(always(wet, 6), c.jobs)
		if err != api.OK || n != c.n || !slices.Equal(set, c.want) {
			t.Error(name, n, set, err)
		}
	}
}

func TestSpareDaysAgainstAllSets(t *testing.T) {
	r := rand.New(rand.NewSource(6))
	found := 0
	for range 2000 {
		s := randomSeason(r, 1+r.Intn(24))
		jobs := randomJobs(r, len(s), r.Intn(6), 3)
		var tight []int
		for _, set := range setsOf(len(jobs))[1:] {
			n, best := lacksOf(s, jobs, set), lacksOf(s, jobs, tight)
			if tight == nil || n > best || n == best && slices.Compare(set, tight) < 0 {
				tight = set
			}
		}
		n, set, err := fell.Spare(s, jobs)
		if tight == nil || lacksOf(s, jobs, tight) > 0 {
			if err != api.ErrNone || len(set)+n != 0 {
				t.Fatal(s, jobs, n, set, err)
			}
			continue
		}
		found++
		if err != api.OK || n != -lacksOf(s, jobs, tight) || !slices.Equal(set, tight) {
			t.Fatal(s, jobs, n, set, err, tight)
		}
	}
	if found < 300 {
		t.Error("so few of the seasons have a plan:", found)
	}
}

// stormy returns a season of which some days, at most so many, have turned to storm.
func stormy(r *rand.Rand, skies []api.Sky, days []int, most int) []api.Sky {
	l := slices.Clone(skies)
	for i, k := range r.Perm(len(days)) {
		if i < most {
			l[days[k]] = storm
		}
	}
	return l
}

func TestSpareDaysCanBeLost(t *testing.T) {
	r := rand.New(rand.NewSource(7))
	lost, tooMany := 0, 0
	for range 1500 {
		s := randomSeason(r, 2+r.Intn(24))
		jobs := randomJobs(r, len(s), 1+r.Intn(4), 3)
		n, tight, err := fell.Spare(s, jobs)
		if err != api.OK {
			continue
		}
		var open, all []int
		for day := range s {
			all = append(all, day)
			if slices.ContainsFunc(tight, func(k int) bool { return isOpen(s, jobs[k], day) }) {
				open = append(open, day)
			}
		}
		for _, days := range [][]int{all, open} {
			if _, _, err := fell.Plan(stormy(r, s, days, n), jobs); err != api.OK {
				t.Fatal(s, jobs, n, tight, err)
			}
			lost += n
		}
		if !slices.ContainsFunc(tight, func(k int) bool { return jobs[k].Least == storm }) {
			if _, _, err := fell.Plan(stormy(r, s, open, n+1), jobs); err != api.ErrNone {
				t.Fatal(s, jobs, n, tight, err)
			}
			tooMany++
		}
	}
	if lost < 300 || tooMany < 100 {
		t.Error("so few days are lost:", lost, tooMany)
	}
}

func TestProofsOfTheGreatestSize(t *testing.T) {
	var jobs []api.FellJob
	for range api.FellJobs {
		jobs = append(jobs, api.FellJob{Days: 60, From: 0, Until: 60, Least: storm})
	}
	all := []int{0, 1, 2, 3, 4, 5, 6, 7, 8, 9, 10, 11}
	if n, err := fell.Lacks(always(storm, 60), jobs, all); err != api.OK || n != 660 {
		t.Error(n, err)
	}
	if set, n, err := fell.Proof(always(storm, 60), jobs); err != api.OK || n != 660 || !slices.Equal(set, all) {
		t.Error(set, n, err)
	}
	for k := range jobs {
		jobs[k].Days = 5
	}
	if n, set, err := fell.Spare(always(storm, 60), jobs); err != api.OK || n != 0 || !slices.Equal(set, all) {
		t.Error(n, set, err)
	}
}
