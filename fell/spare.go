package fell

import (
	"iter"
	"slices"

	"greenhew/api"
)

// Lacks returns what a set of jobs lacks.
func Lacks(skies []api.Sky, jobs []api.FellJob, set []int) (int, api.Errno) {
	g, ok := hire(skies, jobs)
	if !ok || !isSet(set, len(jobs)) {
		return 0, api.ErrArg
	}
	return g.lacks(set), api.OK
}

// Proof returns the set of jobs that lacks most, and how much.
func Proof(skies []api.Sky, jobs []api.FellJob) ([]int, int, api.Errno) {
	g, ok := hire(skies, jobs)
	if !ok {
		return nil, 0, api.ErrArg
	}
	var proof []int
	most := 0
	for set := range sets(len(jobs)) {
		// The one that is contained in all others that lack as much is the smallest of them.
		if n := g.lacks(set); n > most || n == most && len(set) < len(proof) {
			proof, most = slices.Clone(set), n
		}
	}
	return proof, most, api.OK
}

// Spare returns the spare days and the tight set.
func Spare(skies []api.Sky, jobs []api.FellJob) (int, []int, api.Errno) {
	g, ok := hire(skies, jobs)
	if !ok {
		return 0, nil, api.ErrArg
	}
	var tight []int
	least := 0
	for set := range sets(len(jobs)) {
		if n := -g.lacks(set); len(set) > 0 && (tight == nil || n < least) {
			tight, least = slices.Clone(set), n
		}
	}
	if tight == nil || least < 0 {
		return 0, nil, api.ErrNone
	}
	return least, tight, api.OK
}

// lacks returns what a set of jobs lacks.
func (g gang) lacks(set []int) int {
	need := 0
	var open days
	for _, job := range set {
		need += g.jobs[job].Days
		open |= g.open[job]
	}
	return need - open.many()
}

// isSet reports whether a list is a set of so many jobs.
func isSet(l []int, jobs int) bool {
	least := 0
	for _, job := range l {
		if !within(job, least, jobs-1) {
			return false
		}
		least = job + 1
	}
	return true
}

// sets yields all sets of so many jobs, in lexicographic order. The list that it yields is used again.
func sets(jobs int) iter.Seq[[]int] {
	return func(yield func([]int) bool) {
		var set []int
		var goOn func(least int) bool
		goOn = func(least int) bool {
			if !yield(set) {
				return false
			}
			for job := least; job < jobs; job++ {
				set = append(set, job)
				if !goOn(job + 1) {
					return false
				}
				set = set[:len(set)-1]
			}
			return true
		}
		goOn(0)
	}
}
