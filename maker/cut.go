package maker

import (
	"iter"

	"greenhew/api"
)

// Right returns the price of a cut, and whether it is right.
func Right(r api.Rod, parts []api.Part, kerf int, cut []api.Piece) (int, bool) {
	if Check(r, parts, kerf) != api.OK {
		return 0, false
	}
	return lay(r, parts, kerf).price(cut)
}

// Cut returns the best cut and its price.
func Cut(r api.Rod, parts []api.Part, kerf int) ([]api.Piece, int, api.Errno) {
	if err := Check(r, parts, kerf); err != api.OK {
		return nil, 0, err
	}
	s := lay(r, parts, kerf)
	at := s.rests()
	var cut []api.Piece
	for left := at(0); left.pieces > 0; left = at(s.behind(left.first)) {
		cut = append(cut, left.first)
	}
	return cut, at(0).price, api.OK
}

// Waste returns the bulk of all that is not in a piece of a right cut.
func Waste(r api.Rod, parts []api.Part, kerf int, cut []api.Piece) (int, api.Errno) {
	if err := Check(r, parts, kerf); err != api.OK {
		return 0, err
	}
	s := lay(r, parts, kerf)
	if _, ok := s.price(cut); !ok {
		return 0, api.ErrNone
	}
	waste := bulkBetween(r, 0, r.Length)
	for _, p := range cut {
		waste -= bulkBetween(r, p.At, s.end(p))
	}
	return waste, api.OK
}

// rest is the best cut of what lies from a place of a rod on: its price, how many pieces it has, and the first one, if there is one.
type rest struct {
	price, pieces int
	first         api.Piece
}

// rests returns what tells the rest of each place. Beyond the rod, it is the empty one.
func (s stock) rests() func(place int) rest {
	known := map[int]rest{}
	at := func(place int) rest { return known[place] }
	for place := range s.fromTheTip() {
		known[place], _ = best(s.choices(place, at), func(a, b rest) bool {
			return a.price > b.price || a.price == b.price && a.pieces < b.pieces
		})
	}
	return at
}

// fromTheTip yields all places of a rod, from the tip to the butt.
func (s stock) fromTheTip() iter.Seq[int] {
	return func(yield func(int) bool) {
		for place := s.Length; place >= 0; place-- {
			if !yield(place) {
				return
			}
		}
	}
}

// choices yields what can be done at a place of which all places behind are known: to cut each part that can be cut there, or to go on. Of choices that are equally good, the first one comes first in the order of cuts.
func (s stock) choices(place int, at func(int) rest) iter.Seq[rest] {
	return func(yield func(rest) bool) {
		for part, f := range s.fits {
			if !f.canBegin(place) {
				continue
			}
			p := api.Piece{Part: part, At: place}
			left := at(s.behind(p))
			if !yield(rest{price: f.Price + left.price, pieces: 1 + left.pieces, first: p}) {
				return
			}
		}
		yield(at(place + 1))
	}
}

// best returns the first one of the choices than which none is better, and whether there is a choice at all.
func best[T any](choices iter.Seq[T], isBetter func(a, b T) bool) (T, bool) {
	var chosen T
	found := false
	for c := range choices {
		if !found || isBetter(c, chosen) {
			chosen, found = c, true
		}
	}
	return chosen, found
}
