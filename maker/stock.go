package maker

import (
	"sort"

	"greenhew/api"
)

// fit is a part with the places of a rod at which it can be cut: all from first to last, none if last is less than first.
type fit struct {
	api.Part
	first, last int
}

// fitOf returns the part with its places on a rod.
func fitOf(r api.Rod, p api.Part) fit {
	if r.Bend > p.Bend {
		return fit{Part: p, first: 0, last: -1}
	}
	// From the butt on, a rod gets nowhere thicker: what is thin enough or too thin is so at all places behind.
	isThin := func(at int) bool { return compareGirth(r, at, p.Most) <= 0 }
	endsTooThin := func(at int) bool { return compareGirth(r, at+p.Length, p.Least) < 0 }
	return fit{
		Part:  p,
		first: sort.Search(r.Length+1, isThin),
		last:  sort.Search(r.Length-p.Length+1, endsTooThin) - 1,
	}
}

func (f fit) canBegin(at int) bool { return within(at, f.first, f.last) }

// stock is a rod with what can be cut from it.
type stock struct {
	api.Rod
	fits []fit
	kerf int
}

// lay returns the stock for arguments that are as defined.
func lay(r api.Rod, parts []api.Part, kerf int) stock {
	s := stock{Rod: r, kerf: kerf}
	for _, p := range parts {
		s.fits = append(s.fits, fitOf(r, p))
	}
	return s
}

// end returns where a piece ends.
func (s stock) end(p api.Piece) int { return p.At + s.fits[p.Part].Length }

// behind returns the first place at which another piece can begin behind one.
func (s stock) behind(p api.Piece) int { return s.end(p) + s.kerf }

// price returns the price of a cut, which may be any list, and whether it is right.
func (s stock) price(cut []api.Piece) (int, bool) {
	price, free := 0, 0
	for _, p := range cut {
		if !within(p.Part, 0, len(s.fits)-1) || !s.fits[p.Part].canBegin(p.At) || p.At < free {
			return 0, false
		}
		price += s.fits[p.Part].Price
		free = s.behind(p)
	}
	return price, true
}
