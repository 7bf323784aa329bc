package wood

import (
	"iter"

	"greenhew/api"
)

// Bounds returns the walks along all sides between a compartment and something else, with the compartment on the right hand.
func Bounds(m api.WoodMap, comp int) ([]api.Walk, api.Errno) {
	g, ok := survey(m)
	if !ok || !g.hasComp(comp) {
		return nil, api.ErrArg
	}
	var walks []api.Walk
	walked := map[edge]bool{}
	// Cells come row by row from the west, so the first side to the East of each round is where its walk has to begin.
	for cell := range g.Cells {
		first := edge{cell, api.East}
		if g.onEdge(comp, first) && !walked[first] {
			walks = append(walks, g.walkFrom(comp, first, walked))
		}
	}
	return walks, api.OK
}

// Enclosed returns the indexes of the cells that walks enclose on a sheet, in increasing order.
func Enclosed(width, height int, walks []api.Walk) ([]int, api.Errno) {
	if !within(width, 1, api.WoodSide) || !within(height, 1, api.WoodSide) || len(walks) > api.WoodWalks {
		return nil, api.ErrArg
	}
	closed := true
	for _, w := range walks {
		end, ok := endOf(width, height, w)
		if !ok {
			return nil, api.ErrArg
		}
		closed = closed && end == w.From
	}
	if !closed {
		return nil, api.ErrNone
	}
	walked, ok := sidesOf(walks)
	if !ok {
		return nil, api.ErrNone
	}
	cells, ok := insideOf(width, height, walked)
	if !ok {
		return nil, api.ErrNone
	}
	return cells, api.OK
}

// edge is a side of a cell that is walked in a direction with the cell on the right hand.
type edge struct {
	cell int
	dir  api.Dir
}

func (g ground) isIn(comp, cell int) bool { return cell != outside && g.Cells[cell].Comp == comp }

// onEdge reports whether an edge is one of the bounds of a compartment.
func (g ground) onEdge(comp int, e edge) bool {
	return g.isIn(comp, e.cell) && !g.isIn(comp, g.next(e.cell, left(e.dir)))
}

// turn returns the edge that follows another one in the bounds of a compartment.
func (g ground) turn(comp int, e edge) edge {
	ahead := g.next(e.cell, e.dir)
	if !g.isIn(comp, ahead) {
		return edge{e.cell, right(e.dir)}
	}
	beyond := g.next(ahead, left(e.dir))
	if !g.isIn(comp, beyond) {
		return edge{ahead, e.dir}
	}
	return edge{beyond, left(e.dir)}
}

// walkFrom returns the walk that begins with an edge at which a stretch begins, and marks its edges.
func (g ground) walkFrom(comp int, first edge, walked map[edge]bool) api.Walk {
	walk := api.Walk{From: g.place(first.cell)}
	last := api.Dir(0)
	for e := first; !walked[e]; e = g.turn(comp, e) {
		walked[e] = true
		if e.dir != last {
			walk.Stretches = append(walk.Stretches, api.Stretch{Dir: e.dir})
			last = e.dir
		}
		walk.Stretches[len(walk.Stretches)-1].Sides++
	}
	return walk
}

// endOf returns the corner at which a walk ends, and whether the walk is as defined and stays on the sheet.
func endOf(width, height int, w api.Walk) (api.Point, bool) {
	at := w.From
	if len(w.Stretches) > api.WoodStretches || !isCorner(width, height, at) {
		return api.Point{}, false
	}
	for _, s := range w.Stretches {
		if !within(int(s.Dir), int(api.East), int(api.North)) || !within(s.Sides, 1, api.WoodSide) {
			return api.Point{}, false
		}
		at.X += steps[s.Dir].X * s.Sides
		at.Y += steps[s.Dir].Y * s.Sides
		// The sheet is a rectangle: a stretch whose ends are on it is on it altogether.
		if !isCorner(width, height, at) {
			return api.Point{}, false
		}
	}
	return at, true
}

func isCorner(width, height int, p api.Point) bool {
	return within(p.X, 0, width) && within(p.Y, 0, height)
}

// sides yields the sides of a walk, each with the direction in which it is walked.
func sides(w api.Walk) iter.Seq2[api.Side, api.Dir] {
	return func(yield func(api.Side, api.Dir) bool) {
		at := w.From
		for _, s := range w.Stretches {
			for range s.Sides {
				to := api.Point{X: at.X + steps[s.Dir].X, Y: at.Y + steps[s.Dir].Y}
				side := api.Side{X: min(at.X, to.X), Y: min(at.Y, to.Y), Upright: at.X == to.X}
				if !yield(side, s.Dir) {
					return
				}
				at = to
			}
		}
	}
}

// sidesOf returns in which direction each side is walked, and whether none is walked twice.
func sidesOf(walks []api.Walk) (map[api.Side]api.Dir, bool) {
	walked := map[api.Side]api.Dir{}
	for _, w := range walks {
		for s, d := range sides(w) {
			if walked[s] != 0 {
				return nil, false
			}
			walked[s] = d
		}
	}
	return walked, true
}

// insideOf returns the cells that walked sides enclose, and whether they go round each cell once or not at all.
func insideOf(width, height int, walked map[api.Side]api.Dir) ([]int, bool) {
	var cells []int
	for y := range height {
		n := 0
		for x := range width {
			switch walked[api.Side{X: x, Y: y, Upright: true}] {
			case api.North:
				n++
			case api.South:
				n--
			}
			if n != 0 && n != 1 {
				return nil, false
			}
			if n == 1 {
				cells = append(cells, y*width+x)
			}
		}
	}
	return cells, true
}
