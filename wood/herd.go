package wood

import (
	"iter"
	"slices"

	"greenhew/api"
)

// Ways returns ways of deer that prove the price of the best refuge of compartments.
func Ways(m api.WoodMap, fence []api.Side, comps ...int) ([]api.DeerWay, api.Errno) {
	p, ok := graze(m, fence, comps)
	if !ok || len(comps) == 0 {
		return nil, api.ErrArg
	}
	h, many := p.greatestHerd()
	return h.part(many), api.OK
}

// Proves returns the price that ways of deer prove, and whether they prove one.
func Proves(m api.WoodMap, fence []api.Side, comps []int, ways []api.DeerWay) (int, bool) {
	p, ok := graze(m, fence, comps)
	if !ok || len(comps) == 0 || len(ways) > api.WoodWays {
		return 0, false
	}
	total := 0
	over := map[api.Side]int{}
	for _, w := range ways {
		if !p.isWay(w) {
			return 0, false
		}
		for s := range p.crossings(w) {
			// No sum of numbers that can be as great as any integer is made before this.
			if w.Many > p.price(s)-over[s] {
				return 0, false
			}
			over[s] += w.Many
		}
		total += w.Many
	}
	return total, true
}

// herd is how many deer go over each side of a pasture: to the east or south if the number is positive, otherwise to the west or north.
type herd struct {
	pasture
	over map[api.Side]int
}

// going tells how many more deer go over a side in a direction than against it.
func (h herd) going(s api.Side, d api.Dir) int {
	if d == api.East || d == api.South {
		return h.over[s]
	}
	return -h.over[s]
}

// spare tells how many more deer can go over a side in a direction.
func (h herd) spare(s api.Side, d api.Dir) int { return h.price(s) - h.going(s, d) }

// lead lets so many deer more go a way.
func (h herd) lead(w api.DeerWay, many int) {
	for s, d := range h.crossings(w) {
		if d == api.East || d == api.South {
			h.over[s] += many
		} else {
			h.over[s] -= many
		}
	}
}

// greatestHerd returns a herd of as many deer as can come to what is wanted, no side being gone over by more than its price, and how many they are.
func (p pasture) greatestHerd() (herd, int) {
	h := herd{pasture: p, over: map[api.Side]int{}}
	total := 0
	for {
		w, ok := h.shortest(h.spare)
		if !ok {
			return h, total
		}
		h.lead(w, w.Many)
		total += w.Many
	}
}

// part uses up a herd of so many deer, and returns the ways by which they go. Each way uses up what goes over some side, so there are no more ways than sides.
func (h herd) part(many int) []api.DeerWay {
	var ways []api.DeerWay
	for many > 0 {
		w, ok := h.shortest(h.going)
		if !ok {
			break
		}
		h.lead(w, -w.Many)
		many -= w.Many
		ways = append(ways, w)
	}
	return ways
}

// refuge returns the cells from which more deer could still come to what is wanted. If the herd is the greatest one, they are the best refuge: over the fence of a refuge of that price no more deer can come, so each such refuge contains all of these cells.
func (h herd) refuge() []bool {
	refuge := slices.Clone(h.wanted)
	var queue []int
	for i, in := range refuge {
		if in {
			queue = append(queue, i)
		}
	}
	for len(queue) > 0 {
		to := queue[0]
		queue = queue[1:]
		for d, from := range h.around(to) {
			if from == outside || refuge[from] || h.Cells[from].Kind == api.CellWater {
				continue
			}
			if h.passes(to, back(d), h.spare) {
				refuge[from] = true
				queue = append(queue, from)
			}
		}
	}
	return refuge
}

// shortest returns a way of as few cells as any to what is wanted, for as many deer as there is room for on it.
func (p pasture) shortest(open room) (api.DeerWay, bool) {
	trail, found := p.roam(open)
	if found == outside {
		return api.DeerWay{}, false
	}
	w := p.trace(trail, found)
	for s, d := range p.crossings(w) {
		if n := open(s, d); w.Many == 0 || n < w.Many {
			w.Many = n
		}
	}
	return w, true
}

// trace follows a trail back from a cell.
func (p pasture) trace(trail []api.Dir, cell int) api.DeerWay {
	var w api.DeerWay
	for {
		w.Cells = append(w.Cells, cell)
		if trail[cell] == home {
			break
		}
		d := back(trail[cell])
		before := p.next(cell, d)
		if before == outside {
			w.Over = p.side(cell, d)
			break
		}
		cell = before
	}
	slices.Reverse(w.Cells)
	return w
}

// isWay reports whether a way of deer is as defined.
func (p pasture) isWay(w api.DeerWay) bool {
	if len(w.Cells) == 0 || w.Many < 1 {
		return false
	}
	seen := make([]bool, len(p.Cells))
	for _, cell := range w.Cells {
		if !p.hasCell(cell) || seen[cell] || p.Cells[cell].Kind == api.CellWater {
			return false
		}
		seen[cell] = true
	}
	for i, cell := range w.Cells[1:] {
		d := p.toward(w.Cells[i], cell)
		if d == unseen || p.fenced[p.side(w.Cells[i], d)] {
			return false
		}
	}
	return p.wanted[w.Cells[len(w.Cells)-1]] && p.beginsWell(w)
}

// beginsWell reports whether a way begins in a field, or comes over the edge of the map to its first cell where no fence is.
func (p pasture) beginsWell(w api.DeerWay) bool {
	if p.Cells[w.Cells[0]].Kind == api.CellField {
		return w.Over == api.Side{}
	}
	return p.intoFrom(w.Cells[0], w.Over) != unseen && !p.fenced[w.Over]
}

// crossings yields the sides over which a way of deer goes, each with the direction in which it does.
func (p pasture) crossings(w api.DeerWay) iter.Seq2[api.Side, api.Dir] {
	return func(yield func(api.Side, api.Dir) bool) {
		first := w.Cells[0]
		if p.Cells[first].Kind != api.CellField && !yield(w.Over, p.intoFrom(first, w.Over)) {
			return
		}
		for i, cell := range w.Cells[1:] {
			d := p.toward(w.Cells[i], cell)
			if !yield(p.side(w.Cells[i], d), d) {
				return
			}
		}
	}
}

// intoFrom returns the direction in which one comes to a cell over a side at the edge of the map, or unseen if it is no such side of the cell.
func (g ground) intoFrom(cell int, over api.Side) api.Dir {
	for d, near := range g.around(cell) {
		if near == outside && g.side(cell, d) == over {
			return back(d)
		}
	}
	return unseen
}

// toward returns the direction from a cell to a neighbor, or unseen if it is none.
func (g ground) toward(cell, to int) api.Dir {
	for d, near := range g.around(cell) {
		if near == to {
			return d
		}
	}
	return unseen
}
