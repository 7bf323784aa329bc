package fell_test

import (
	"iter"
	"math"
	"math/rand"
	"slices"
	"testing"

	"greenhew/api"
	"greenhew/wood"
)

const (
	storm = api.SkyStorm
	wet   = api.SkyWet
	dry   = api.SkyDry
	frost = api.SkyFrost
)

var skiesFromTheWorst = []api.Sky{storm, wet, dry, frost}

// example is the sheet of layer 1's map.
const example = "wood 4 3\nf0 b2 r1 w\nf0 1:3:4 1:5:0 2:0:2\nf0 1:3:1 r1 2:0:6\nstandard 5 1 60\n"

func read(t *testing.T, sheet string) api.WoodMap {
	t.Helper()
	m, err := wood.Read(sheet)
	if err != api.OK {
		t.Fatalf("%q is no sheet of a map: error %d", sheet, err)
	}
	return m
}

// chapterSeason returns the season s of the chapter.
func chapterSeason() []api.Sky { return []api.Sky{dry, storm, wet, frost, dry} }

// chapterJobs returns the jobs of the chapter, with so many days for the job 0.
func chapterJobs(days int) []api.FellJob {
	return []api.FellJob{{Days: days, From: 0, Until: 5, Least: dry}, {Days: 1, From: 0, Until: 3, Least: wet}}
}

// always returns a season of so many days with the same sky.
func always(sky api.Sky, days int) []api.Sky { return slices.Repeat([]api.Sky{sky}, days) }

// idle returns a plan without work.
func idle(days int) []int { return slices.Repeat([]int{-1}, days) }

// isOpen follows the chapter word for word.
func isOpen(skies []api.Sky, j api.FellJob, day int) bool {
	return day >= j.From && day < j.Until && skies[day] >= j.Least
}

// lacksOf follows the chapter word for word.
func lacksOf(skies []api.Sky, jobs []api.FellJob, set []int) int {
	lacks := 0
	for _, k := range set {
		lacks += jobs[k].Days
	}
	for day := range skies {
		if slices.ContainsFunc(set, func(k int) bool { return isOpen(skies, jobs[k], day) }) {
			lacks--
		}
	}
	return lacks
}

// setsOf returns all sets of so many jobs.
func setsOf(jobs int) [][]int {
	l := [][]int{nil}
	for k := range jobs {
		for _, set := range l {
			l = append(l, append(slices.Clone(set), k))
		}
	}
	return l
}

// canBeDone reports whether no set of jobs lacks more than 0.
func canBeDone(skies []api.Sky, jobs []api.FellJob) bool {
	return !slices.ContainsFunc(setsOf(len(jobs)), func(set []int) bool { return lacksOf(skies, jobs, set) > 0 })
}

// plansOf yields all lists of so many days with jobs or none, in the order of plans.
func plansOf(days, jobs int) iter.Seq[[]int] {
	return func(yield func([]int) bool) {
		var plan []int
		var goOn func() bool
		goOn = func() bool {
			if len(plan) == days {
				return yield(plan)
			}
			for k := range jobs + 1 {
				job := k
				if k == jobs {
					job = -1
				}
				plan = append(plan, job)
				if !goOn() {
					return false
				}
				plan = plan[:len(plan)-1]
			}
			return true
		}
		goOn()
	}
}

// rightOf follows the chapter word for word.
func rightOf(skies []api.Sky, jobs []api.FellJob, plan []int) (int, bool) {
	if len(plan) != len(skies) {
		return 0, false
	}
	end := 0
	for day, job := range plan {
		if job != -1 {
			end = day + 1
			if job < 0 || job >= len(jobs) || !isOpen(skies, jobs[job], day) {
				return 0, false
			}
		}
	}
	for k, j := range jobs {
		done := 0
		for _, job := range plan {
			if job == k {
				done++
			}
		}
		if done != j.Days {
			return 0, false
		}
	}
	return end, true
}

// firstBest goes through all plans.
func firstBest(skies []api.Sky, jobs []api.FellJob) ([]int, int, bool) {
	var best []int
	least, found := 0, false
	for plan := range plansOf(len(skies), len(jobs)) {
		if end, ok := rightOf(skies, jobs, plan); ok && (!found || end < least) {
			best, least, found = slices.Clone(plan), end, true
		}
	}
	return best, least, found
}

func randomSky(r *rand.Rand) api.Sky { return api.Sky(1 + r.Intn(4)) }

func randomSeason(r *rand.Rand, days int) []api.Sky {
	var skies []api.Sky
	for range days {
		skies = append(skies, randomSky(r))
	}
	return skies
}

// randomJobs returns so many jobs, each of which takes at most so many days, in a season of some length.
func randomJobs(r *rand.Rand, season, jobs, most int) []api.FellJob {
	var l []api.FellJob
	for range jobs {
		a, b := r.Intn(season+1), r.Intn(season+1)
		if r.Intn(2) == 0 {
			a, b = a/3, season-b/3
		}
		l = append(l, api.FellJob{Days: 1 + r.Intn(most), From: min(a, b), Until: max(a, b), Least: min(randomSky(r), randomSky(r))})
	}
	return l
}

func randomForecast(r *rand.Rand, days int) []api.Forecast {
	var f []api.Forecast
	for range days {
		a, b := randomSky(r), randomSky(r)
		f = append(f, api.Forecast{Low: min(a, b), High: max(a, b)})
	}
	return f
}

// seasonsOf returns all seasons of a forecast.
func seasonsOf(f []api.Forecast) [][]api.Sky {
	l := [][]api.Sky{nil}
	for _, day := range f {
		var longer [][]api.Sky
		for _, skies := range l {
			for sky := day.Low; sky <= day.High; sky++ {
				longer = append(longer, append(slices.Clone(skies), sky))
			}
		}
		l = longer
	}
	return l
}

// randomMap returns a map whose first cells are compartments of one cell each, so many; cells may be water and banks.
func randomMap(r *rand.Rand, width, height, comps int) api.WoodMap {
	m := api.WoodMap{Width: width, Height: height, Cells: make([]api.WoodCell, width*height)}
	for i := range m.Cells {
		m.Cells[i] = api.WoodCell{Kind: api.CellRide, Soft: r.Intn(10)}
		switch r.Intn(8) {
		case 0:
			m.Cells[i].Kind = api.CellField
		case 1:
			m.Cells[i].Kind = api.CellBank
		case 2:
			m.Cells[i] = api.WoodCell{Kind: api.CellWater}
		}
	}
	for i, at := range r.Perm(len(m.Cells))[:comps] {
		m.Cells[at] = api.WoodCell{Kind: api.CellWood, Comp: i + 1, Soft: r.Intn(10), Stools: r.Intn(1 + api.WoodStools)}
		// A compartment of two cells, where that is possible.
		if next := at + 1; next%width != 0 && m.Cells[next].Comp == 0 {
			m.Cells[next] = m.Cells[at]
			m.Cells[next].Soft = r.Intn(10)
		}
	}
	return m
}

// randomCoupes returns so many coupes with different compartments out of as many.
func randomCoupes(r *rand.Rand, season, coupes int) []api.FellCoupe {
	var l []api.FellCoupe
	for _, k := range r.Perm(coupes) {
		l = append(l, api.FellCoupe{
			Comp: k + 1, Fell: 1 + r.Intn(2), Rest: r.Intn(3), Load: 1 + r.Intn(100), Loads: 1 + r.Intn(80),
			Until: season - r.Intn(min(season, 3)+1),
		})
	}
	return l
}

func copyOf(m api.WoodMap) api.WoodMap {
	m.Cells, m.Standards = slices.Clone(m.Cells), slices.Clone(m.Standards)
	return m
}

// odd returns a number that is often out of range.
func odd(r *rand.Rand) int {
	l := []int{math.MinInt, -2, -1, 0, 1, 2, 3, 4, 5, 6, 7, 12, 59, 60, 61, 63, 64, 65, 100, 101, 200, 201, math.MaxInt - 1, math.MaxInt}
	return l[r.Intn(len(l))]
}

func oddInts(r *rand.Rand) []int {
	var l []int
	for range r.Intn(5) {
		l = append(l, odd(r))
	}
	return l
}
