package coupe

import (
	"iter"
	"math/bits"
	"slices"

	"greenhew/api"
)

// ages has the age of each coupe; those of coupes that a cycle does not have are 0. The numbers are small ones since ages are the keys of great maps.
type ages [api.CoupeMany]int8

// agesOf returns the ages of a list that is as defined.
func agesOf(l []int) ages {
	var a ages
	for i, age := range l {
		a[i] = int8(age)
	}
	return a
}

// compareAges tells the order of ages.
func compareAges(a, b ages) int { return slices.Compare(a[:], b[:]) }

// move is a choice with some ages: what it yields, and the next ages.
type move struct {
	choice int
	yield  int
	next   ages
}

// cuts reports whether a coupe is in the choice.
func (m move) cuts(coupe int) bool { return m.choice>>coupe&1 == 1 }

// rule reports whether a move from some ages keeps it.
type rule func(now ages, m move) bool

// grove is a cycle that is as defined, with its rules, and the moves that are known to be allowed.
type grove struct {
	api.Cycle
	rules []rule
	known map[ages][]move
}

// open returns the grove of a cycle, or its error. Whether the other arguments of the call are defined counts as the cycle itself does: too many states are looked for after that.
func open(c api.Cycle, othersAreDefined bool) (*grove, api.Errno) {
	if !othersAreDefined || !cycleIsDefined(c) {
		return nil, api.ErrArg
	}
	if hasTooManyStates(c) {
		return nil, api.ErrLong
	}
	g := &grove{Cycle: c, known: map[ages][]move{}}
	g.rules = []rule{g.isGrown, g.isInTime, g.hasHands}
	for _, h := range c.Habitats {
		g.rules = append(g.rules, habitat{h, len(c.Coupes)}.isThere)
	}
	return g, api.OK
}

// start returns the ages of the cycle itself.
func (g *grove) start() ages {
	var a ages
	for i, c := range g.Coupes {
		a[i] = int8(c.Age)
	}
	return a
}

// list returns ages as a list.
func (g *grove) list(a ages) []int {
	l := make([]int, len(g.Coupes))
	for i := range l {
		l[i] = int(a[i])
	}
	return l
}

// moves yields the moves that are allowed with some ages and yield at least a floor, in the order of their choices.
func (g *grove) moves(now ages, floor int) iter.Seq[move] {
	return func(yield func(move) bool) {
		for _, m := range g.allowed(now) {
			if m.yield >= floor && !yield(m) {
				return
			}
		}
	}
}

// chosen returns the move of a choice, and whether it is allowed with some ages.
func (g *grove) chosen(now ages, choice int) (move, bool) {
	for m := range g.moves(now, 0) {
		if m.choice == choice {
			return m, true
		}
	}
	return move{}, false
}

// allowed returns the moves that are allowed with some ages. They are kept, because many ways come to the same ages.
func (g *grove) allowed(now ages) []move {
	if l, ok := g.known[now]; ok {
		return l
	}
	var l []move
choices:
	for choice := range 1 << len(g.Coupes) {
		m := g.move(now, choice)
		for _, keeps := range g.rules {
			if !keeps(now, m) {
				continue choices
			}
		}
		l = append(l, m)
	}
	g.known[now] = l
	return l
}

// move returns the move of a choice, which need not be allowed.
func (g *grove) move(now ages, choice int) move {
	m := move{choice: choice}
	for i, c := range g.Coupes {
		if m.cuts(i) {
			m.yield += c.Yields[now[i]]
		} else {
			m.next[i] = now[i] + 1
		}
	}
	return m
}

// isGrown reports whether each coupe that is cut has its least age.
func (g *grove) isGrown(now ages, m move) bool {
	for i, c := range g.Coupes {
		if m.cuts(i) && int(now[i]) < c.Least {
			return false
		}
	}
	return true
}

// isInTime reports whether each coupe is cut that gets too old otherwise.
func (g *grove) isInTime(now ages, m move) bool {
	for i, c := range g.Coupes {
		if !m.cuts(i) && int(now[i]) == c.Most {
			return false
		}
	}
	return true
}

// hasHands reports whether there are hands for all coupes that are cut.
func (g *grove) hasHands(_ ages, m move) bool { return bits.OnesCount(uint(m.choice)) <= g.Hands }

// habitat is a habitat of a cycle with so many coupes.
type habitat struct {
	api.Habitat
	coupes int
}

// isThere reports whether enough coupes are of its ages after a move.
func (h habitat) isThere(_ ages, m move) bool {
	many := 0
	for _, age := range m.next[:h.coupes] {
		if within(int(age), h.From, h.To) {
			many++
		}
	}
	return many >= h.Need
}
