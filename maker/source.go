package maker

import (
	"iter"
	"slices"

	"greenhew/api"
)

// ending is a cut of which none with the same counts ends sooner: the first place at which another piece can begin behind it, and its last piece, if it has one.
type ending struct {
	free int
	last api.Piece
}

// source is what can be cut from a rod: for all counts that can, a cut, and the set of these counts.
type source struct {
	stock
	cuts  map[counts]ending
	reach *reach
}

// sourceOf returns the source of a rod, with counts that are at most some.
func sourceOf(s stock, most counts) source {
	o := source{stock: s, cuts: map[counts]ending{}, reach: new(reach)}
	for c := range most.all() {
		if e, ok := best(o.endings(c), func(a, b ending) bool { return a.free < b.free }); ok {
			o.cuts[c] = e
			o.reach.add(c)
		}
	}
	return o
}

// endings yields the endings of cuts with some counts, by their last part, if those of all lesser counts are known. A last piece begins as early as it can: that leaves most for others.
func (o source) endings(c counts) iter.Seq[ending] {
	return func(yield func(ending) bool) {
		if c == (counts{}) {
			yield(ending{})
			return
		}
		for part, f := range o.fits {
			fewer := c
			fewer[part]--
			before, ok := o.cuts[fewer]
			at := max(before.free, f.first)
			if !ok || !f.canBegin(at) {
				continue
			}
			p := api.Piece{Part: part, At: at}
			if !yield(ending{free: o.behind(p), last: p}) {
				return
			}
		}
	}
}

// cut returns a cut with some counts, which are in reach.
func (o source) cut(c counts) []api.Piece {
	var cut []api.Piece
	for c != (counts{}) {
		last := o.cuts[c].last
		cut = append(cut, last)
		c[last.Part]--
	}
	slices.Reverse(cut)
	return cut
}
