package maker

import (
	"slices"

	"greenhew/api"
)

// Sort returns, for each rod, the index of the first grade of which it is.
func Sort(rods []api.Rod, grades []api.Grade) ([]int, api.Errno) {
	if len(rods) > api.MakeStock || !areRods(rods...) || len(grades) > api.MakeGrades || slices.ContainsFunc(grades, gradeIsWrong) {
		return nil, api.ErrArg
	}
	var sorted []int
	for _, r := range rods {
		// Of no grade, the index is -1, as it has to be.
		sorted = append(sorted, slices.IndexFunc(grades, func(g api.Grade) bool { return grade{g}.has(r) }))
	}
	return sorted, api.OK
}

func gradeIsWrong(g api.Grade) bool {
	return !within(g.Length, 0, api.MakeLength) || !within(g.Most, 0, api.MakeGirth) || !within(g.Least, 0, g.Most) || !within(g.Bend, 0, api.MakeBend)
}

// grade is a grade with its conditions.
type grade struct{ api.Grade }

func (g grade) longEnough(r api.Rod) bool { return r.Length >= g.Length }

func (g grade) thickEnough(r api.Rod) bool { return r.Butt >= g.Least }

func (g grade) thinEnough(r api.Rod) bool { return r.Butt <= g.Most }

func (g grade) straightEnough(r api.Rod) bool { return r.Bend <= g.Bend }

// has reports whether a rod is of the grade.
func (g grade) has(r api.Rod) bool {
	for _, holds := range []func(api.Rod) bool{g.longEnough, g.thickEnough, g.thinEnough, g.straightEnough} {
		if !holds(r) {
			return false
		}
	}
	return true
}
