package coupe

import (
	"slices"
	"sort"

	"greenhew/api"
)

// endless stands for the number of years for which one can go on with lasting ages.
const endless = -1

// ranks returns a function that tells for how many years one can go on from some ages, with moves that yield at least a floor, and the map in which it keeps what is known of that.
func (g *grove) ranks(floor int) (func(now ages) int, map[ages]int) {
	known := map[ages]int{}
	var rank func(now ages) int
	rank = func(now ages) int {
		if years, ok := known[now]; ok {
			return years
		}
		// If this is read before it is known for how many years one can go on, then these ages lead to themselves again, so it is true.
		known[now] = endless
		most := 0
		for m := range g.moves(now, floor) {
			years := rank(m.next)
			if years == endless {
				return endless
			}
			most = max(most, years+1)
		}
		known[now] = most
		return most
	}
	return rank, known
}

// Lasting returns the beginning and the round of the lasting plan.
func Lasting(c api.Cycle, floor int) ([]int, []int, api.Errno) {
	g, err := open(c, floor >= 0)
	if err != api.OK {
		return nil, nil, err
	}
	rank, _ := g.ranks(floor)
	now := g.start()
	if rank(now) != endless {
		return nil, nil, api.ErrNone
	}
	var choices []int
	years := map[ages]int{}
	for {
		if first, again := years[now]; again {
			return slices.Clone(choices[:first]), slices.Clone(choices[first:]), api.OK
		}
		years[now] = len(choices)
		for m := range g.moves(now, floor) {
			if rank(m.next) == endless {
				choices = append(choices, m.choice)
				now = m.next
				break
			}
		}
	}
}

// Greatest returns the greatest floor for which there is a lasting plan.
func Greatest(c api.Cycle) (int, api.Errno) {
	g, err := open(c, true)
	if err != api.OK {
		return 0, err
	}
	// With a greater floor, no more ages are lasting.
	tooGreat := sort.Search(api.CoupeMany*api.CoupeYield+1, func(floor int) bool {
		rank, _ := g.ranks(floor)
		return rank(g.start()) != endless
	})
	if tooGreat == 0 {
		return 0, api.ErrNone
	}
	return tooGreat - 1, api.OK
}

// Ranks returns the table of ranks for a floor.
func Ranks(c api.Cycle, floor int) ([]api.CoupeRank, api.Errno) {
	g, err := open(c, floor >= 0)
	if err != api.OK {
		return nil, err
	}
	rank, known := g.ranks(floor)
	if rank(g.start()) == endless {
		return nil, api.ErrState
	}
	var table []api.CoupeRank
	for _, a := range inOrder(known, compareAges) {
		table = append(table, api.CoupeRank{Ages: g.list(a), Rank: known[a]})
	}
	return table, api.OK
}

// Ends reports whether a table of ranks proves that nothing lasts.
func Ends(c api.Cycle, floor int, l []api.CoupeRank) bool {
	if len(l) > tableMost {
		return false
	}
	g, err := open(c, floor >= 0)
	if err != api.OK {
		return false
	}
	ranks, ok := g.readRanks(l)
	if !ok {
		return false
	}
	if _, ok := ranks[g.start()]; !ok {
		return false
	}
	for _, r := range l {
		for m := range g.moves(agesOf(r.Ages), floor) {
			if later, ok := ranks[m.next]; !ok || later >= r.Rank {
				return false
			}
		}
	}
	return true
}

// readRanks returns the ranks of a table, and whether the table is as defined.
func (g *grove) readRanks(l []api.CoupeRank) (map[ages]int, bool) {
	ranks := make(map[ages]int, len(l))
	for i, r := range l {
		if !agesAreDefined(g.Cycle, r.Ages) || r.Rank < 0 || i > 0 && slices.Compare(l[i-1].Ages, r.Ages) >= 0 {
			return nil, false
		}
		ranks[agesOf(r.Ages)] = r.Rank
	}
	return ranks, true
}
