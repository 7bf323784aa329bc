package coupe

import (
	"slices"

	"greenhew/api"
)

// tableMost is how many values or ranks a table has at most.
const tableMost = (api.CoupeYears + 1) * api.CoupeStates

func within(n, least, most int) bool { return n >= least && n <= most }

// allWithin reports whether all numbers of a list are from 0 to a greatest one.
func allWithin(l []int, most int) bool {
	return !slices.ContainsFunc(l, func(n int) bool { return !within(n, 0, most) })
}

func cycleIsDefined(c api.Cycle) bool {
	return within(len(c.Coupes), 1, api.CoupeMany) && within(c.Hands, 0, api.CoupeMany) && len(c.Habitats) <= api.CoupeHabitats &&
		!slices.ContainsFunc(c.Coupes, coupeIsWrong) && !slices.ContainsFunc(c.Habitats, habitatIsWrong)
}

func coupeIsWrong(c api.Coupe) bool {
	return !within(c.Most, 1, api.CoupeAge) || !within(c.Least, 1, c.Most) || !within(c.Age, 0, c.Most) ||
		len(c.Yields) != c.Most+1 || !allWithin(c.Yields, api.CoupeYield)
}

func habitatIsWrong(h api.Habitat) bool {
	return h.From < 0 || h.From > h.To || h.To > api.CoupeAge || !within(h.Need, 0, api.CoupeMany)
}

// hasTooManyStates reports whether a cycle that is as defined has more states than are allowed.
func hasTooManyStates(c api.Cycle) bool {
	states := 1
	for _, coupe := range c.Coupes {
		if states *= coupe.Most + 1; states > api.CoupeStates {
			return true
		}
	}
	return false
}

// agesAreDefined reports whether a list has an age for each coupe of a cycle, which need not be as defined.
func agesAreDefined(c api.Cycle, l []int) bool {
	if len(l) != len(c.Coupes) {
		return false
	}
	for i, age := range l {
		if !within(age, 0, c.Coupes[i].Most) {
			return false
		}
	}
	return true
}

func standardsAreDefined(s api.Standards) bool {
	classes := len(s.Counts)
	return within(classes, 1, api.CoupeClasses) && len(s.Keep) == classes && len(s.Price) == classes &&
		allWithin(s.Counts, api.CoupeTrees) && allWithin(s.Keep, api.CoupeTrees) && s.Keep[classes-1] == 0 &&
		allWithin(s.Price, priceMost) && within(s.Recruit, 0, api.CoupeTrees)
}
