package coupe

import (
	"slices"

	"greenhew/api"
)

// priceMost is the greatest price of a tree.
const priceMost = 1000000

// Timber returns the best felling plan, and its worth.
func Timber(s api.Standards, times int) ([][]int, int, api.Errno) {
	if times > api.CoupeTimes {
		return nil, 0, api.ErrLong
	}
	if times < 0 || !standardsAreDefined(s) {
		return nil, 0, api.ErrArg
	}
	t := timber{s, slices.Clone(s.Counts)}
	var plan [][]int
	worth := 0
	for i := range times {
		felled, ok := t.best(times - i)
		if !ok {
			return nil, 0, api.ErrNone
		}
		worth += t.fell(felled)
		plan = append(plan, felled)
	}
	return plan, worth, api.OK
}

// Worth returns the worth of a felling plan, and whether it is one.
func Worth(s api.Standards, felled [][]int) (int, bool) {
	if len(felled) > api.CoupeTimes || !standardsAreDefined(s) {
		return 0, false
	}
	t := timber{s, slices.Clone(s.Counts)}
	worth := 0
	for _, l := range felled {
		if !t.allows(l) {
			return 0, false
		}
		worth += t.fell(l)
	}
	return worth, true
}

// timber is standards that are as defined, with the trees that are there before a felling.
type timber struct {
	api.Standards
	trees []int
}

// best returns the best felling if there are so many left, with this one, and whether there is any. The trees of a class go up together, so each class stands for itself: where one of the fellings to come brings more for a tree, all its trees wait, and otherwise only those that a duty needs, now or later.
func (t timber) best(left int) ([]int, bool) {
	felled := make([]int, len(t.trees))
	for i := range len(t.trees) {
		until := min(i+left, len(t.trees))
		duty := slices.Max(t.Keep[i:until])
		if t.trees[i] < duty {
			return nil, false
		}
		if t.Price[i] == slices.Max(t.Price[i:until]) {
			felled[i] = t.trees[i] - duty
		}
	}
	return felled, true
}

// allows reports whether so many trees of each class can be felled.
func (t timber) allows(felled []int) bool {
	if len(felled) != len(t.trees) {
		return false
	}
	last := len(felled) - 1
	for i, n := range felled {
		if !within(n, 0, t.trees[i]) || t.trees[i]-n < t.Keep[i] || i == last && n < t.trees[i] {
			return false
		}
	}
	return true
}

// fell fells trees, lets all others go one class up, and returns what the felled ones are worth.
func (t timber) fell(felled []int) int {
	worth, come := 0, t.Recruit
	for i, n := range felled {
		worth += n * t.Price[i]
		come, t.trees[i] = t.trees[i]-n, come
	}
	return worth
}
