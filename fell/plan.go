package fell

import (
	"slices"
	"sort"
)

// leastEnd returns the end of the best plan, and whether there is a right plan at all.
func (g gang) leastEnd() (int, bool) {
	// With more days, there still is each plan that there was with less.
	end := sort.Search(len(g.skies)+1, g.canEnd)
	return end, end <= len(g.skies)
}

// canEnd reports whether there is a right plan that has no work from a day on.
func (g gang) canEnd(end int) bool {
	_, ok := g.planBefore(end)
	return ok
}

// planBefore returns a right plan that has no work from a day on, and whether there is one.
func (g gang) planBefore(end int) ([]int, bool) {
	var work []int
	for job, j := range g.jobs {
		work = append(work, slices.Repeat([]int{job}, j.Days)...)
	}
	plan := slices.Repeat([]int{none}, len(g.skies))
	return plan, g.place(plan, span(0, end), work)
}

// place finds one of some days for each element of work, which is a list of jobs. For that, it moves other work among these days. It reports whether it has found a day for all of them; if not, the plan is spoilt.
func (g gang) place(plan []int, some days, work []int) (ok bool) {
	// The search panics when no plan is left, and nothing else here does.
	defer func() { ok = recover() == nil }()
	tried := make([]bool, len(g.jobs))
	var find func(job int) bool
	find = func(job int) bool {
		tried[job] = true
		for day := range (g.open[job] & some).all() {
			if other := plan[day]; other == none || !tried[other] && find(other) {
				plan[day] = job
				return true
			}
		}
		return false
	}
	augment := func(job int) {
		clear(tried)
		if !find(job) {
			panic("no plan is left")
		}
	}
	for _, job := range work {
		augment(job)
	}
	return true
}

// best returns the best plan, given its end.
func (g gang) best(end int) []int {
	plan, _ := g.planBefore(end)
eachDay:
	for day := range end {
		for job := range g.jobs {
			if plan[day] == job {
				continue eachDay
			}
			if sooner, ok := g.moveUp(plan, job, day, end); ok {
				plan = sooner
				continue eachDay
			}
		}
	}
	return plan
}

// moveUp returns a right plan with a job on a day that is as another right plan before that day and has no work from the end on, and whether there is one.
func (g gang) moveUp(plan []int, job, day, end int) ([]int, bool) {
	last := lastDay(plan, job)
	if last < day || !g.open[job].has(day) {
		return nil, false
	}
	moved := slices.Clone(plan)
	moved[day], moved[last] = job, none
	var work []int
	if plan[day] != none {
		work = []int{plan[day]}
	}
	return moved, g.place(moved, span(day+1, end), work)
}

// lastDay returns the last day on which a job is done in a plan in which it is done.
func lastDay(plan []int, job int) int {
	day := len(plan) - 1
	for plan[day] != job {
		day--
	}
	return day
}
