package wood

import (
	"cmp"
	"iter"
	"slices"

	"greenhew/api"
)

// Deer returns, for each cell, whether deer come to it.
func Deer(m api.WoodMap, fence []api.Side) ([]bool, api.Errno) {
	p, ok := graze(m, fence, nil)
	if !ok {
		return nil, api.ErrArg
	}
	open := func(api.Side, api.Dir) int { return 1 }
	trail, _ := p.roam(open)
	come := make([]bool, len(p.Cells))
	for i, d := range trail {
		come[i] = d != unseen
	}
	return come, api.OK
}

// Price returns the price of a side.
func Price(m api.WoodMap, side api.Side) (int, api.Errno) {
	g, ok := survey(m)
	if !ok || !g.hasSide(side) {
		return 0, api.ErrArg
	}
	return g.price(side), api.OK
}

// Fence returns the fence of the best refuge of compartments, and its price.
func Fence(m api.WoodMap, fence []api.Side, comps ...int) ([]api.Side, int, api.Errno) {
	p, ok := graze(m, fence, comps)
	if !ok || len(comps) == 0 {
		return nil, 0, api.ErrArg
	}
	h, _ := p.greatestHerd()
	sides := p.fenceOf(h.refuge())
	price := 0
	for _, s := range sides {
		price += p.price(s)
	}
	return sides, price, api.OK
}

// pasture is the ground of a map with its fence, and with what deer look for.
type pasture struct {
	ground
	fenced map[api.Side]bool
	wanted []bool // for each cell, whether it is of one of the compartments
}

// graze returns a pasture, and whether all that it is about is as defined. There can be no compartments at all.
func graze(m api.WoodMap, fence []api.Side, comps []int) (pasture, bool) {
	g, ok := survey(m)
	if !ok {
		return pasture{}, false
	}
	p := pasture{ground: g, fenced: map[api.Side]bool{}, wanted: make([]bool, len(g.Cells))}
	for i, s := range fence {
		if !g.hasSide(s) || i > 0 && compareSides(fence[i-1], s) >= 0 {
			return pasture{}, false
		}
		p.fenced[s] = true
	}
	for i, c := range comps {
		if !g.hasComp(c) || i > 0 && comps[i-1] >= c {
			return pasture{}, false
		}
	}
	for i, c := range g.Cells {
		p.wanted[i] = c.Kind == api.CellWood && slices.Contains(comps, c.Comp)
	}
	return p, true
}

// compareSides tells the order of sides in a fence.
func compareSides(a, b api.Side) int {
	switch {
	case a.Y != b.Y:
		return cmp.Compare(a.Y, b.Y)
	case a.X != b.X:
		return cmp.Compare(a.X, b.X)
	case a.Upright == b.Upright:
		return 0
	case b.Upright:
		return -1
	}
	return 1
}

func (g ground) price(s api.Side) int {
	softest := 0
	before, after := g.beside(s)
	for _, cell := range [...]int{before, after} {
		if cell == outside {
			continue
		}
		if g.Cells[cell].Kind == api.CellBank {
			return 1
		}
		softest = max(softest, g.Cells[cell].Soft)
	}
	return 2 + softest
}

// room tells how many deer can go over a side in a direction.
type room func(s api.Side, d api.Dir) int

// Beside a direction, a trail can have one of these.
const (
	unseen api.Dir = 0  // deer have not come there
	home   api.Dir = -1 // they are there from the beginning
)

// roam lets deer come from the fields, and over the edge of the map, wherever there is room, until they find a cell that is wanted. It returns the directions in which they first came to each cell, and the cell that they found, or outside.
func (p pasture) roam(open room) ([]api.Dir, int) {
	trail := make([]api.Dir, len(p.Cells))
	queue := []int{outside}
	for i, c := range p.Cells {
		if c.Kind == api.CellField {
			trail[i] = home
			queue = append(queue, i)
		}
	}
	found := outside
search:
	for len(queue) > 0 {
		from := queue[0]
		queue = queue[1:]
		for d, to := range p.onward(from) {
			if to == outside || trail[to] != unseen || !p.passes(to, d, open) {
				continue
			}
			trail[to] = d
			if p.wanted[to] {
				found = to
				break search
			}
			queue = append(queue, to)
		}
	}
	return trail, found
}

// onward yields the directions in which one can go on from a cell, or from outside, each with the cell that is there.
func (p pasture) onward(from int) iter.Seq2[api.Dir, int] {
	if from == outside {
		return p.entries()
	}
	return p.around(from)
}

// passes reports whether deer get into a cell in a direction.
func (p pasture) passes(to int, d api.Dir, open room) bool {
	s := p.side(to, back(d))
	return p.Cells[to].Kind != api.CellWater && !p.fenced[s] && open(s, d) > 0
}

// fenceOf returns the fence of a refuge, in order.
func (p pasture) fenceOf(refuge []bool) []api.Side {
	var fence []api.Side
	for cell, in := range refuge {
		if !in {
			continue
		}
		for d, near := range p.around(cell) {
			if near != outside && (refuge[near] || p.Cells[near].Kind == api.CellWater) {
				continue
			}
			if s := p.side(cell, d); !p.fenced[s] {
				fence = append(fence, s)
			}
		}
	}
	slices.SortFunc(fence, compareSides)
	return fence
}
