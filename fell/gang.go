package fell

import (
	"iter"
	"math/bits"
	"slices"

	"greenhew/api"
)

// none stands for no job, where the index of one is expected.
const none = -1

func within(n, least, most int) bool { return n >= least && n <= most }

func isSky(s api.Sky) bool { return s >= api.SkyStorm && s <= api.SkyFrost }

// days is a set of days: the bit of each day that is in it is 1. A season has fewer days than there are bits.
type days uint64

// span returns the days from a first one on and before an end.
func span(first, end int) days { return 1<<end - 1<<first }

func (d days) has(day int) bool { return d>>day&1 == 1 }

func (d days) many() int { return bits.OnesCount64(uint64(d)) }

// all yields the days of a set, from the first one on.
func (d days) all() iter.Seq[int] {
	return func(yield func(int) bool) {
		for left := d; left != 0; left &= left - 1 {
			if !yield(bits.TrailingZeros64(uint64(left))) {
				return
			}
		}
	}
}

// season is a list of skies that is as defined.
type season struct{ skies []api.Sky }

// seasonOf returns the season of a list of skies, and whether the list is as defined.
func seasonOf(skies []api.Sky) (season, bool) {
	for _, s := range skies {
		if !isSky(s) {
			return season{}, false
		}
	}
	return season{skies}, len(skies) <= api.FellDays
}

// reason tells whether there is a certain reason for which a job cannot be done on a day.
type reason func(j api.FellJob, day int) bool

func (s season) isTooEarly(j api.FellJob, day int) bool { return day < j.From }

func (s season) isTooLate(j api.FellJob, day int) bool { return day >= j.Until }

func (s season) isTooRough(j api.FellJob, day int) bool { return s.skies[day] < j.Least }

// openFor returns the days that are open for a job.
func (s season) openFor(j api.FellJob) days {
	var open days
	reasons := []reason{s.isTooEarly, s.isTooLate, s.isTooRough}
	for day := range s.skies {
		if !slices.ContainsFunc(reasons, func(closes reason) bool { return closes(j, day) }) {
			open |= span(day, day+1)
		}
	}
	return open
}

// jobIsWrong reports whether a job is not as defined in a season.
func (s season) jobIsWrong(j api.FellJob) bool {
	return !within(j.Days, 1, api.FellDays) || !within(j.Until, 0, len(s.skies)) || !within(j.From, 0, j.Until) || !isSky(j.Least)
}

// gang is a season with jobs that are as defined in it, and the days that are open for each of them.
type gang struct {
	season
	jobs []api.FellJob
	open []days
}

// hire returns the gang for a season and jobs, and whether both are as defined.
func hire(skies []api.Sky, jobs []api.FellJob) (gang, bool) {
	s, ok := seasonOf(skies)
	if !ok || len(jobs) > api.FellJobs || slices.ContainsFunc(jobs, s.jobIsWrong) {
		return gang{}, false
	}
	g := gang{season: s, jobs: jobs}
	for _, j := range jobs {
		g.open = append(g.open, s.openFor(j))
	}
	return g, true
}

// isRight reports whether a plan, which may be any list, is right.
func (g gang) isRight(plan []int) bool {
	if len(plan) != len(g.skies) {
		return false
	}
	done := make([]int, len(g.jobs))
	for day, job := range plan {
		if job == none {
			continue
		}
		if !within(job, 0, len(g.jobs)-1) || !g.open[job].has(day) {
			return false
		}
		done[job]++
	}
	for job, j := range g.jobs {
		if done[job] != j.Days {
			return false
		}
	}
	return true
}

// endOf returns the end of a plan.
func endOf(plan []int) int {
	end := 0
	for day, job := range plan {
		if job != none {
			end = day + 1
		}
	}
	return end
}
