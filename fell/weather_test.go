package fell_test

import (
	"math/rand"
	"slices"
	"testing"

	"greenhew/api"
	"greenhew/fell"
)

func TestWorstSeasons(t *testing.T) {
	f := []api.Forecast{{Low: wet, High: frost}, {Low: dry, High: dry}, {Low: storm, High: storm}, {Low: frost, High: frost}}
	if s, err := fell.Worst(f); err != api.OK || !slices.Equal(s, []api.Sky{wet, dry, storm, frost}) {
		t.Error(s, err)
	}
	if s, err := fell.Worst(nil); err != api.OK || len(s) != 0 {
		t.Error(s, err)
	}
	long := slices.Repeat([]api.Forecast{{Low: storm, High: frost}}, api.FellDays)
	if s, err := fell.Worst(long); err != api.OK || !slices.Equal(s, always(storm, 60)) {
		t.Error(s, err)
	}
}

// forecastsThatAreNone returns forecasts that are not as defined.
func forecastsThatAreNone() [][]api.Forecast {
	return [][]api.Forecast{
		{{Low: dry, High: wet}},
		{{Low: frost, High: storm}},
		{{Low: 0, High: dry}},
		{{Low: dry, High: 5}},
		{{Low: 5, High: 5}},
		{{}},
		{{Low: -1, High: -1}},
		{{Low: wet, High: dry}, {Low: dry, High: wet}},
		slices.Repeat([]api.Forecast{{Low: storm, High: frost}}, api.FellDays+1),
	}
}

func TestForecastsThatAreNone(t *testing.T) {
	for _, f := range forecastsThatAreNone() {
		if s, err := fell.Worst(f); err != api.ErrArg || len(s) != 0 {
			t.Error(f, s, err)
		}
		if ok, err := fell.Sure(f, nil, idle(len(f))); err != api.ErrArg || ok {
			t.Error(f, ok, err)
		}
	}
}

func TestSurePlans(t *testing.T) {
	f := []api.Forecast{{Low: wet, High: frost}, {Low: dry, High: dry}}
	jobs := []api.FellJob{{Days: 1, Until: 2, Least: dry}}
	for name, c := range map[string]struct {
		plan []int
		want bool
	}{
		"on the day that is sure":      {[]int{-1, 0}, true},
		"on the day that may be wet":   {[]int{0, -1}, false},
		"on both days":                 {[]int{0, 0}, false},
		"on none":                      {[]int{-1, -1}, false},
		"a plan for another season":    {[]int{-1, 0, -1}, false},
		"no plan":                      {nil, false},
		"a plan of jobs that are none": {[]int{-2, 0}, false},
	} {
		if ok, err := fell.Sure(f, jobs, c.plan); err != api.OK || ok != c.want {
			t.Error(name, ok, err)
		}
	}
	if ok, err := fell.Sure(nil, nil, nil); err != api.OK || !ok {
		t.Error(ok, err)
	}
}

func TestSureRefusesJobs(t *testing.T) {
	f := []api.Forecast{{Low: wet, High: frost}, {Low: dry, High: dry}}
	for _, j := range []api.FellJob{{Days: 0, Until: 2, Least: dry}, {Days: 1, Until: 3, Least: dry}, {Days: 1, From: 2, Until: 1, Least: dry}, {Days: 1, Until: 2}} {
		if ok, err := fell.Sure(f, []api.FellJob{j}, []int{-1, 0}); err != api.ErrArg || ok {
			t.Error(j, ok, err)
		}
	}
}

func TestSureAgainstAllSeasons(t *testing.T) {
	r := rand.New(rand.NewSource(8))
	sure, unsure := 0, 0
	for range 600 {
		f := randomForecast(r, r.Intn(6))
		jobs := randomJobs(r, len(f), r.Intn(3), 2)
		seasons := seasonsOf(f)
		plan, _, err := fell.Plan(seasons[r.Intn(len(seasons))], jobs)
		if err != api.OK {
			plan = idle(len(f))
		}
		want := true
		for _, s := range seasons {
			_, ok := rightOf(s, jobs, plan)
			want = want && ok
		}
		if ok, err := fell.Sure(f, jobs, plan); err != api.OK || ok != want {
			t.Fatal(f, jobs, plan, ok, err)
		}
		if want {
			sure++
		} else {
			unsure++
		}
	}
	if sure < 100 || unsure < 100 {
		t.Error(sure, unsure)
	}
}

func TestPlansOfTheWorstSeasonAreSure(t *testing.T) {
	r := rand.New(rand.NewSource(9))
	found := 0
	for range 500 {
		f := randomForecast(r, 1+r.Intn(30))
		jobs := randomJobs(r, len(f), 1+r.Intn(3), 3)
		worst, err := fell.Worst(f)
		if err != api.OK || len(worst) != len(f) {
			t.Fatal(f, worst, err)
		}
		plan, end, err := fell.Plan(worst, jobs)
		if err != api.OK {
			continue
		}
		found++
		if ok, err := fell.Sure(f, jobs, plan); err != api.OK || !ok {
			t.Fatal(f, jobs, plan, ok, err)
		}
		better := slices.Clone(worst)
		for day := range better {
			better[day] += api.Sky(r.Intn(int(f[day].High-f[day].Low) + 1))
		}
		if _, sooner, err := fell.Plan(better, jobs); err != api.OK || sooner > end {
			t.Fatal(f, jobs, better, end, sooner, err)
		}
	}
	if found < 100 {
		t.Error("so few of the seasons have a plan:", found)
	}
}
