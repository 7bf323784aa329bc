package fell_test

import (
	"math"
	"math/rand"
	"slices"
	"testing"

	"greenhew/api"
	"greenhew/fell"
)

func TestPlansOfTheChapter(t *testing.T) {
	s := chapterSeason()
	for days, want := range map[int][]int{2: {0, -1, 1, 0, -1}, 3: {0, -1, 1, 0, 0}} {
		plan, end, err := fell.Plan(s, chapterJobs(days))
		if err != api.OK || end != days+2 || !slices.Equal(plan, want) {
			t.Error(days, plan, end, err)
		}
	}
	if end, ok := fell.Right(s, chapterJobs(2), []int{1, -1, -1, 0, 0}); !ok || end != 5 {
		t.Error(end, ok)
	}
	if plan, end, err := fell.Plan(s, chapterJobs(4)); err != api.ErrNone || len(plan)+end != 0 {
		t.Error(plan, end, err)
	}
}

func TestPlansWithoutWork(t *testing.T) {
	for _, days := range []int{0, 1, 60} {
		s := always(frost, days)
		if plan, end, err := fell.Plan(s, nil); err != api.OK || end != 0 || !slices.Equal(plan, idle(days)) {
			t.Error(days, plan, end, err)
		}
		if end, ok := fell.Right(s, []api.FellJob{}, idle(days)); !ok || end != 0 {
			t.Error(days, end, ok)
		}
		if end, ok := fell.Right(s, nil, idle(days+1)); ok || end != 0 {
			t.Error("a plan of another length:", days, end, ok)
		}
	}
	// A job that takes days in a season that has none is as defined, but cannot be done.
	j := []api.FellJob{{Days: 1, Least: storm}}
	if plan, end, err := fell.Plan(nil, j); err != api.ErrNone || len(plan)+end != 0 {
		t.Error(plan, end, err)
	}
}

func TestOpenDays(t *testing.T) {
	s := []api.Sky{frost, wet, dry, storm, frost, dry}
	for _, c := range []struct {
		job  api.FellJob
		open []int
	}{
		{api.FellJob{Days: 1, From: 0, Until: 6, Least: storm}, []int{0, 1, 2, 3, 4, 5}},
		{api.FellJob{Days: 1, From: 0, Until: 6, Least: wet}, []int{0, 1, 2, 4, 5}},
		{api.FellJob{Days: 1, From: 0, Until: 6, Least: dry}, []int{0, 2, 4, 5}},
		{api.FellJob{Days: 1, From: 0, Until: 6, Least: frost}, []int{0, 4}},
		{api.FellJob{Days: 1, From: 2, Until: 5, Least: dry}, []int{2, 4}},
		{api.FellJob{Days: 1, From: 1, Until: 4, Least: storm}, []int{1, 2, 3}},
		{api.FellJob{Days: 1, From: 3, Until: 3, Least: storm}, nil},
		{api.FellJob{Days: 1, From: 6, Until: 6, Least: storm}, nil},
	} {
		for day := range s {
			plan := idle(len(s))
			plan[day] = 0
			end, ok := fell.Right(s, []api.FellJob{c.job}, plan)
			if want := slices.Contains(c.open, day); ok != want || ok && end != day+1 || !ok && end != 0 {
				t.Error(c.job, day, end, ok)
			}
		}
	}
}

func TestPlansThatAreNotRight(t *testing.T) {
	s, j := chapterSeason(), chapterJobs(2)
	for name, plan := range map[string][]int{
		"none":                  nil,
		"too short":             {0, -1, 1, 0},
		"too long":              {0, -1, 1, 0, -1, -1},
		"no such job":           {0, -1, 1, 0, 2},
		"less than no job":      {0, -2, 1, 0, -1},
		"the least number":      {0, math.MinInt, 1, 0, -1},
		"the greatest number":   {0, math.MaxInt, 1, 0, -1},
		"a day too few":         {0, -1, 1, -1, -1},
		"a day too many":        {0, -1, 1, 0, 0},
		"a job left out":        {0, -1, -1, 0, -1},
		"under a sky too bad":   {-1, -1, 0, 0, 1},
		"on a day that is over": {0, -1, -1, 0, 1},
		"in a storm":            {0, 1, -1, 0, -1},
	} {
		if end, ok := fell.Right(s, j, plan); ok || end != 0 {
			t.Error(name, end, ok)
		}
	}
	early := []api.FellJob{{Days: 1, From: 1, Until: 2, Least: storm}}
	if end, ok := fell.Right(always(frost, 2), early, []int{0, -1}); ok || end != 0 {
		t.Error("a day too early:", end, ok)
	}
}

func TestPlansThatComeFirst(t *testing.T) {
	all := func(days, until int) api.FellJob { return api.FellJob{Days: days, Until: until, Least: storm} }
	for name, c := range map[string]struct {
		jobs []api.FellJob
		want []int
	}{
		"the first job first":           {[]api.FellJob{all(1, 4), all(2, 4)}, []int{0, 1, 1, -1}},
		"work before none":              {[]api.FellJob{{Days: 1, From: 2, Until: 4, Least: storm}, all(1, 4)}, []int{1, -1, 0, -1}},
		"a job that has to be done now": {[]api.FellJob{all(2, 4), all(1, 1)}, []int{1, 0, 0, -1}},
		"one that has to be done soon":  {[]api.FellJob{all(2, 4), all(1, 2)}, []int{0, 1, 0, -1}},
		"the job that alone can wait":   {[]api.FellJob{all(1, 4), all(1, 2), all(1, 3), all(1, 3)}, []int{1, 2, 3, 0}},
		"an end is worth more":          {[]api.FellJob{{Days: 1, From: 1, Until: 4, Least: storm}, {Days: 1, From: 1, Until: 3, Least: storm}, all(1, 4)}, []int{2, 0, 1, -1}},
	} {
		plan, _, err := fell.Plan(always(frost, 4), c.jobs)
		if err != api.OK || !slices.Equal(plan, c.want) {
			t.Error(name, plan, err)
		}
	}
}

func TestPlansAgainstAllPlans(t *testing.T) {
	r := rand.New(rand.NewSource(1))
	found := 0
	for range 1500 {
		s := randomSeason(r, r.Intn(6))
		jobs := randomJobs(r, len(s), r.Intn(4), 2)
		want, least, ok := firstBest(s, jobs)
		plan, end, err := fell.Plan(s, jobs)
		if !ok {
			if err != api.ErrNone || len(plan)+end != 0 {
				t.Fatal(s, jobs, plan, end, err)
			}
			continue
		}
		found++
		if err != api.OK || end != least || !slices.Equal(plan, want) {
			t.Fatal(s, jobs, plan, end, err, want, least)
		}
	}
	if found < 300 {
		t.Error("so few of the seasons have a plan:", found)
	}
}

func TestRightAgainstTheChapter(t *testing.T) {
	r := rand.New(rand.NewSource(2))
	for range 150 {
		s := randomSeason(r, r.Intn(6))
		jobs := randomJobs(r, len(s), r.Intn(4), 2)
		for plan := range plansOf(len(s), len(jobs)) {
			want, is := rightOf(s, jobs, plan)
			if end, ok := fell.Right(s, jobs, plan); ok != is || end != want {
				t.Fatal(s, jobs, plan, end, ok, want, is)
			}
		}
	}
}

// after returns jobs that can be done only from a day on, and before an end.
func after(jobs []api.FellJob, day, end int) []api.FellJob {
	l := slices.Clone(jobs)
	for k := range l {
		l[k].Until = min(l[k].Until, end)
		l[k].From = min(max(l[k].From, day), l[k].Until)
	}
	return l
}

// without returns jobs of which one has a day less to do; a job without days is left out.
func without(jobs []api.FellJob, job int) []api.FellJob {
	l := slices.Clone(jobs)
	if l[job].Days--; l[job].Days == 0 {
		l[job].Until = l[job].From
	}
	return l
}

func TestGreatPlansAreTheFirst(t *testing.T) {
	r := rand.New(rand.NewSource(3))
	found := 0
	for range 100 {
		s := randomSeason(r, 40+r.Intn(21))
		jobs := randomJobs(r, len(s), 1+r.Intn(8), 8)
		plan, end, err := fell.Plan(s, jobs)
		if (err == api.OK) != canBeDone(s, jobs) || err != api.OK && err != api.ErrNone {
			t.Fatal(s, jobs, plan, end, err)
		}
		if err != api.OK {
			continue
		}
		found++
		if n, ok := fell.Right(s, jobs, plan); !ok || n != end || canBeDone(s, after(jobs, 0, end-1)) {
			t.Fatal(s, jobs, plan, end, n, ok)
		}
		left := jobs
		for day := range end {
			for job := range jobs {
				if job == plan[day] {
					left = without(left, job)
					break
				}
				if left[job].Days > 0 && isOpen(s, jobs[job], day) && canBeDone(s, after(without(left, job), day+1, end)) {
					t.Fatal(s, jobs, plan, "could have had on the day", day, "the job", job)
				}
			}
		}
	}
	if found < 20 {
		t.Error("so few of the seasons have a plan:", found)
	}
}

func TestPlansOfTheGreatestSize(t *testing.T) {
	var jobs []api.FellJob
	var want []int
	for k := range api.FellJobs {
		// Each job has to be done later than the next one.
		jobs = append(jobs, api.FellJob{Days: 5, From: 0, Until: 60 - 5*k, Least: frost})
		want = append(slices.Repeat([]int{k}, 5), want...)
	}
	plan, end, err := fell.Plan(always(frost, api.FellDays), jobs)
	if err != api.OK || end != 60 || !slices.Equal(plan, want) {
		t.Error(plan, end, err)
	}
	jobs[3].Days++
	if plan, end, err := fell.Plan(always(frost, api.FellDays), jobs); err != api.ErrNone || len(plan)+end != 0 {
		t.Error(plan, end, err)
	}
	one := []api.FellJob{{Days: 60, Until: 60, Least: frost}}
	if plan, end, err := fell.Plan(always(frost, 60), one); err != api.OK || end != 60 || !slices.Equal(plan, make([]int, 60)) {
		t.Error(plan, end, err)
	}
}

func TestMoreWorkIsNeverDoneEarlier(t *testing.T) {
	r := rand.New(rand.NewSource(4))
	compared := [2]int{}
	for range 1000 {
		s := randomSeason(r, 5+r.Intn(30))
		jobs := randomJobs(r, len(s), 2+r.Intn(5), 4)
		_, end, err := fell.Plan(s, jobs)
		if err == api.OK {
			_, less, err := fell.Plan(s, jobs[1:])
			if err != api.OK || less > end {
				t.Fatal(s, jobs, end, less, err)
			}
			compared[0]++
		}
		earlier := slices.Clone(jobs)
		k := r.Intn(len(jobs))
		earlier[k].From = r.Intn(earlier[k].From + 1)
		if _, sooner, soonErr := fell.Plan(s, earlier); err == api.OK && (soonErr != api.OK || sooner > end) {
			t.Fatal(s, jobs, earlier, end, sooner, soonErr)
		}
		if earlier[k] != jobs[k] && err == api.OK {
			compared[1]++
		}
	}
	if min(compared[0], compared[1]) < 100 {
		t.Error("so few could be compared:", compared)
	}
}
