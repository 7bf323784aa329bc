package maker

import (
	"cmp"
	"iter"
	"math/bits"
	"slices"
	"sort"

	"greenhew/api"
)

// Wares returns the greatest number of wares, and a share that is enough for them.
func Wares(rods []api.Rod, parts []api.Part, kerf int, takes []int) (int, [][]api.Piece, api.Errno) {
	if !areRods(rods...) || !areParts(parts) || !isKerf(kerf) || !isWare(takes, len(parts)) {
		return 0, nil, api.ErrArg
	}
	if areTooMany(rods, parts) {
		return 0, nil, api.ErrLong
	}
	ware := countsOf(takes)
	s := open(rods, parts, kerf, ware.times(api.MakeWares))
	reach := s.reach(s.all())
	many := sort.Search(api.MakeWares, func(n int) bool { return !reach.has(ware.times(n + 1)) })
	return many, s.share(s.all(), ware.times(many)), api.OK
}

// Fill returns the best filling of an order, and a share of its rods.
func Fill(rods []api.Rod, parts []api.Part, kerf int, order []int) ([]int, [][]api.Piece, api.Errno) {
	if !areRods(rods...) || !areParts(parts) || !isKerf(kerf) || !isOrder(order, len(parts)) {
		return nil, nil, api.ErrArg
	}
	if areTooMany(rods, parts) {
		return nil, nil, api.ErrLong
	}
	wanted := countsOf(order)
	s := open(rods, parts, kerf, wanted)
	filling, ok := best(s.fillings(wanted), s.isBetter)
	if !ok {
		return nil, nil, api.ErrNone
	}
	return slices.Collect(filling.rods()), s.share(filling, wanted), api.OK
}

// isWare reports whether a list is what a ware takes of so many parts.
func isWare(takes []int, parts int) bool {
	return areNumbers(takes, parts, api.MakeMany) && slices.ContainsFunc(takes, func(n int) bool { return n > 0 })
}

// isOrder reports whether a list is an order of so many parts.
func isOrder(order []int, parts int) bool {
	return areNumbers(order, parts, api.MakeMany*api.MakeWares)
}

// areNumbers reports whether a list has one number for each of so many parts, none of them greater than the most.
func areNumbers(l []int, parts, most int) bool {
	return len(l) == parts && !slices.ContainsFunc(l, func(n int) bool { return !within(n, 0, most) })
}

// areTooMany reports whether there are too many rods or parts for them to be shared out.
func areTooMany(rods []api.Rod, parts []api.Part) bool {
	return len(rods) > api.MakeRods || len(parts) > api.MakeKinds
}

// set is a set of rods: the bit of each rod that is in it is 1.
type set uint

func (s set) many() int { return bits.OnesCount(uint(s)) }

// split returns the first rod of a set that is not empty, and the others.
func (s set) split() (int, set) { return bits.TrailingZeros(uint(s)), s & (s - 1) }

// rods yields the rods of a set in increasing order.
func (s set) rods() iter.Seq[int] {
	return func(yield func(int) bool) {
		for left := s; left != 0; {
			rod, others := left.split()
			if !yield(rod) {
				return
			}
			left = others
		}
	}
}

// shop is rods that are shared out, up to some counts, with what is known of their sets.
type shop struct {
	sources []source
	most    counts
	known   map[set]*reach
}

// open returns the shop of arguments that are as defined and not too many.
func open(rods []api.Rod, parts []api.Part, kerf int, most counts) shop {
	s := shop{most: most, known: map[set]*reach{}}
	for _, r := range rods {
		s.sources = append(s.sources, sourceOf(lay(r, parts, kerf), most))
	}
	nothing := new(reach)
	nothing.add(counts{})
	s.known[0] = nothing
	return s
}

// all returns the set of all rods.
func (s shop) all() set { return 1<<len(s.sources) - 1 }

// reach returns which counts shares of a set of rods can yield.
func (s shop) reach(rods set) *reach {
	if s.known[rods] == nil {
		first, others := rods.split()
		s.known[rods] = s.sources[first].reach.plus(s.reach(others), s.most)
	}
	return s.known[rods]
}

// fillings yields all sets of rods that fill an order.
func (s shop) fillings(order counts) iter.Seq[set] {
	return func(yield func(set) bool) {
		for rods := range s.all() + 1 {
			if s.reach(rods).has(order) && !yield(rods) {
				return
			}
		}
	}
}

// isBetter reports whether a set of rods is a better filling than another one.
func (s shop) isBetter(a, b set) bool {
	return cmp.Or(
		cmp.Compare(a.many(), b.many()),
		cmp.Compare(s.length(a), s.length(b)),
		slices.Compare(slices.Collect(a.rods()), slices.Collect(b.rods())),
	) < 0
}

// length returns the sum of the Lengths of a set of rods.
func (s shop) length(rods set) int {
	sum := 0
	for rod := range rods.rods() {
		sum += s.sources[rod].Length
	}
	return sum
}

// found is a share that has been found.
type found [][]api.Piece

// share returns a share of a set of rods that yields just some counts, which it can yield.
func (s shop) share(rods set, wanted counts) (cuts [][]api.Piece) {
	// The share is handed back by a panic from the last rod, through the choices for all rods before it.
	defer func() { cuts, _ = recover().(found) }()
	var deal func(left set, wanted counts, dealt found)
	deal = func(left set, wanted counts, dealt found) {
		if left == 0 {
			panic(dealt)
		}
		rod, others := left.split()
		from := s.sources[rod]
		for own := range wanted.pairs() {
			if !from.reach.has(own) {
				continue
			}
			own[2] = min(wanted[2], from.reach.last(own))
			if missing := wanted.minus(own); s.reach(others).has(missing) {
				deal(others, missing, append(dealt, from.cut(own)))
			}
		}
	}
	deal(rods, wanted, nil)
	return nil
}
