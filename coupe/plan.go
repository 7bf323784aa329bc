package coupe

import (
	"cmp"
	"math"
	"slices"

	"greenhew/api"
)

// none stands for what can still be cut if there are no choices up to the last year.
const none = -1

// moment is a year of a plan, and the ages then.
type moment struct {
	year int16
	ages ages
}

// momentOf returns the moment of a value that is as defined.
func momentOf(v api.CoupeValue) moment { return moment{int16(v.Year), agesOf(v.Ages)} }

// after returns the moment to which a move leads.
func (now moment) after(m move) moment { return moment{now.year + 1, m.next} }

// compareMoments tells the order of moments in a table.
func compareMoments(a, b moment) int {
	return cmp.Or(cmp.Compare(a.year, b.year), compareAges(a.ages, b.ages))
}

// rests returns the best that can still come up to the last year, or none, for each moment to which moves with yields of at least a floor lead. What comes in a year is joined with the best that comes after it; end comes after the last year.
func (g *grove) rests(years, floor, end int, join func(yield, later int) int) map[moment]int {
	known := map[moment]int{}
	var best func(now moment) int
	best = func(now moment) int {
		if rest, ok := known[now]; ok {
			return rest
		}
		rest := none
		if int(now.year) == years {
			rest = end
		} else {
			for m := range g.moves(now.ages, floor) {
				if later := best(now.after(m)); later != none {
					rest = max(rest, join(m.yield, later))
				}
			}
		}
		known[now] = rest
		return rest
	}
	best(moment{ages: g.start()})
	return known
}

// sums returns the greatest sum of yields up to the last year for each moment to which moves with yields of at least a floor lead.
func (g *grove) sums(years, floor int) map[moment]int {
	return g.rests(years, floor, 0, func(yield, later int) int { return yield + later })
}

// best returns the best plan, and whether there is any. No plan has a greater least yield than the floor, so it is the least yield of all plans whose yields are at least the floor, and the sum alone tells which of these are the best.
func (g *grove) best(years int) (api.Cutting, bool) {
	now := moment{ages: g.start()}
	floor := g.rests(years, 0, math.MaxInt, func(yield, later int) int { return min(yield, later) })[now]
	if floor == none {
		return api.Cutting{}, false
	}
	sums := g.sums(years, floor)
	var p api.Cutting
	for range years {
		m := g.leading(now, floor, sums)
		p.Choices = append(p.Choices, m.choice)
		p.Yields = append(p.Yields, m.yield)
		now = now.after(m)
	}
	return p, true
}

// leading returns the first move that leads to the greatest sum. There has to be one.
func (g *grove) leading(now moment, floor int, sums map[moment]int) move {
	for m := range g.moves(now.ages, floor) {
		if later := sums[now.after(m)]; later != none && m.yield+later == sums[now] {
			return m
		}
	}
	return move{}
}

// Values returns the table of values for some years and a floor.
func Values(c api.Cycle, years, floor int) ([]api.CoupeValue, api.Errno) {
	if years > api.CoupeYears {
		return nil, api.ErrLong
	}
	g, err := open(c, years >= 0 && floor >= 0)
	if err != api.OK {
		return nil, err
	}
	sums := g.sums(years, floor)
	var table []api.CoupeValue
	for _, at := range inOrder(sums, compareMoments) {
		table = append(table, api.CoupeValue{Year: int(at.year), Ages: g.list(at.ages), Rest: sums[at]})
	}
	return table, api.OK
}

// inOrder returns the keys of a map in an order.
func inOrder[K comparable, V any](known map[K]V, compare func(a, b K) int) []K {
	keys := make([]K, 0, len(known))
	for k := range known {
		keys = append(keys, k)
	}
	slices.SortFunc(keys, compare)
	return keys
}

// Proves reports whether a table of values proves a sum.
func Proves(c api.Cycle, years, floor, sum int, l []api.CoupeValue) bool {
	if years > api.CoupeYears || len(l) > tableMost {
		return false
	}
	g, err := open(c, years >= 0 && floor >= 0 && sum >= none)
	if err != api.OK {
		return false
	}
	rests, ok := g.read(l, years)
	if !ok {
		return false
	}
	if rest, ok := rests[moment{ages: g.start()}]; !ok || rest > sum {
		return false
	}
	for _, v := range l {
		if v.Year == years && v.Rest == none || v.Year < years && !g.bounds(v, floor, rests) {
			return false
		}
	}
	return true
}

// read returns the values of a table, and whether the table is as defined.
func (g *grove) read(l []api.CoupeValue, years int) (map[moment]int, bool) {
	rests := make(map[moment]int, len(l))
	var before moment
	for i, v := range l {
		if !within(v.Year, 0, years) || !agesAreDefined(g.Cycle, v.Ages) || v.Rest < none {
			return nil, false
		}
		at := momentOf(v)
		if i > 0 && compareMoments(before, at) >= 0 {
			return nil, false
		}
		rests[at] = v.Rest
		before = at
	}
	return rests, true
}

// bounds reports whether the values to which moves from a value lead are there, and leave it enough. Nothing is added to them, since they can be as great as any integer.
func (g *grove) bounds(v api.CoupeValue, floor int, rests map[moment]int) bool {
	at := momentOf(v)
	for m := range g.moves(at.ages, floor) {
		later, ok := rests[at.after(m)]
		if !ok || later != none && later > v.Rest-m.yield {
			return false
		}
	}
	return true
}
