package fell

import (
	"iter"
	"slices"

	"greenhew/api"
	"greenhew/wood"
)

// Felled returns at which day each coupe is felled.
func Felled(skies []api.Sky, coupes []api.FellCoupe, order []int) ([]int, api.Errno) {
	s, ok := seasonOf(skies)
	if !ok || !s.hasCoupes(coupes) || !isOrder(order, len(coupes)) {
		return nil, api.ErrArg
	}
	felled, ok := s.felled(coupes, order)
	if !ok {
		return nil, api.ErrNone
	}
	return felled, api.OK
}

// Order returns the best order of coupes, the best plan of the horse, and its end.
func Order(m api.WoodMap, yard int, skies []api.Sky, coupes []api.FellCoupe) ([]int, []int, int, api.Errno) {
	s, ok := seasonOf(skies)
	if !ok || !s.hasCoupes(coupes) || !hasGround(m, yard, coupes) {
		return nil, nil, 0, api.ErrArg
	}
	hauls, ok := haulsOf(m, yard, coupes)
	if !ok {
		return nil, nil, 0, api.ErrNone
	}
	var best []int
	var horse gang
	least := len(skies) + 1
	for order := range permutations(indexes(len(coupes))) {
		g, ok := s.horseOf(coupes, hauls, order)
		// Most orders are no better than one that is known already, which is soon seen.
		if !ok || !g.canEnd(least-1) {
			continue
		}
		best, horse = order, g
		least, _ = g.leastEnd()
	}
	if least > len(skies) {
		return nil, nil, 0, api.ErrNone
	}
	return best, horse.best(least), least, api.OK
}

// hasCoupes reports whether coupes are as defined in a season, as far as that does not depend on the map.
func (s season) hasCoupes(coupes []api.FellCoupe) bool {
	if len(coupes) > api.FellCoupes || slices.ContainsFunc(coupes, s.coupeIsWrong) {
		return false
	}
	taken := map[int]bool{}
	for _, c := range coupes {
		taken[c.Comp] = true
	}
	return len(taken) == len(coupes)
}

func (s season) coupeIsWrong(c api.FellCoupe) bool {
	return c.Comp < 1 || !within(c.Fell, 1, api.FellDays) || !within(c.Rest, 0, api.FellDays) || !within(c.Load, 1, maxLoad) ||
		!within(c.Loads, 1, api.FellLoads) || !within(c.Until, 0, len(s.skies))
}

// hasGround reports whether a map is as defined, and has the yard and the compartments of coupes.
func hasGround(m api.WoodMap, yard int, coupes []api.FellCoupe) bool {
	if wood.Check(m) != api.OK || !within(yard, 0, len(m.Cells)-1) {
		return false
	}
	for _, c := range coupes {
		if _, err := wood.Cells(m, c.Comp); err != api.OK {
			return false
		}
	}
	return true
}

// isOrder reports whether a list is an order of so many coupes.
func isOrder(l []int, coupes int) bool {
	return slices.Equal(slices.Sorted(slices.Values(l)), indexes(coupes))
}

func indexes(many int) []int {
	var l []int
	for i := range many {
		l = append(l, i)
	}
	return l
}

// permutations yields all orders of a list, each one as a new list. Those of a list in increasing order come in lexicographic order.
func permutations[T any](l []T) iter.Seq[[]T] {
	return func(yield func([]T) bool) {
		var begun []T
		var goOn func(left []T) bool
		goOn = func(left []T) bool {
			if len(left) == 0 {
				return yield(slices.Clone(begun))
			}
			for i, next := range left {
				begun = append(begun, next)
				if !goOn(slices.Concat(left[:i], left[i+1:])) {
					return false
				}
				begun = begun[:len(begun)-1]
			}
			return true
		}
		goOn(l)
	}
}

// felled returns at which day each coupe is felled in an order, and whether there are days enough.
func (s season) felled(coupes []api.FellCoupe, order []int) ([]int, bool) {
	at := make([]int, len(coupes))
	day := 0
	for _, i := range order {
		for left := coupes[i].Fell; left > 0; day++ {
			if day == len(s.skies) {
				return nil, false
			}
			if s.skies[day] != api.SkyStorm {
				left--
			}
		}
		at[i] = day
	}
	return at, true
}

// haulsOf returns the hauls of coupes, and whether all of them exist.
func haulsOf(m api.WoodMap, yard int, coupes []api.FellCoupe) ([]api.FellJob, bool) {
	var hauls []api.FellJob
	for _, c := range coupes {
		haul, err := Haul(m, yard, c.Comp, c.Load, c.Loads)
		if err != api.OK {
			return nil, false
		}
		hauls = append(hauls, haul)
	}
	return hauls, true
}

// horseOf returns the work of the horse if coupes are felled in an order, and whether all of its jobs can be such.
func (s season) horseOf(coupes []api.FellCoupe, hauls []api.FellJob, order []int) (gang, bool) {
	felled, ok := s.felled(coupes, order)
	if !ok {
		return gang{}, false
	}
	jobs := slices.Clone(hauls)
	for i, c := range coupes {
		jobs[i].From, jobs[i].Until = felled[i]+c.Rest, c.Until
	}
	// A haul that takes too many days, or ends before it begins, is no job as defined.
	return hire(s.skies, jobs)
}
