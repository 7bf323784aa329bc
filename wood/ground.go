package wood

import (
	"iter"

	"greenhew/api"
)

// outside stands for what lies beyond the edge of the map, where a cell's index is expected.
const outside = -1

// steps has, for each direction, how far a step in it leads.
var steps = [...]api.Point{api.East: {X: 1}, api.South: {Y: 1}, api.West: {X: -1}, api.North: {Y: -1}}

// ground is a map that is as defined, with what follows from it.
type ground struct {
	api.WoodMap
	comps int // how many compartments there are
}

// survey returns the ground of a map, and whether the map is as defined.
func survey(m api.WoodMap) (ground, bool) {
	g := ground{WoodMap: m}
	if !within(m.Width, 1, api.WoodSide) || !within(m.Height, 1, api.WoodSide) || len(m.Cells) != m.Width*m.Height {
		return ground{}, false
	}
	for _, c := range m.Cells {
		if !cellIsDefined(c) {
			return ground{}, false
		}
		g.comps = max(g.comps, c.Comp)
	}
	if !g.compsAreWhole() || !g.standardsStand() {
		return ground{}, false
	}
	return g, true
}

func within(n, least, most int) bool { return n >= least && n <= most }

func cellIsDefined(c api.WoodCell) bool {
	if !within(c.Soft, 0, 9) {
		return false
	}
	switch c.Kind {
	case api.CellWood:
		return within(c.Comp, 1, api.WoodComps) && within(c.Stools, 0, api.WoodStools)
	case api.CellWater:
		return c.Comp == 0 && c.Stools == 0 && c.Soft == 0
	case api.CellRide, api.CellBank, api.CellField:
		return c.Comp == 0 && c.Stools == 0
	}
	return false
}

// compsAreWhole reports whether each number up to the greatest one is that of exactly one connected piece.
func (g ground) compsAreWhole() bool {
	pieces := make([]int, g.comps+1)
	seen := make([]bool, len(g.Cells))
	for i, c := range g.Cells {
		if c.Comp > 0 && !seen[i] {
			pieces[c.Comp]++
			g.markPiece(i, seen)
		}
	}
	for _, n := range pieces[1:] {
		if n != 1 {
			return false
		}
	}
	return true
}

// markPiece marks all cells of a compartment that are connected with one of its cells.
func (g ground) markPiece(first int, seen []bool) {
	seen[first] = true
	left := []int{first}
	for len(left) > 0 {
		cell := left[len(left)-1]
		left = left[:len(left)-1]
		for _, near := range g.around(cell) {
			if near != outside && !seen[near] && g.Cells[near].Comp == g.Cells[first].Comp {
				seen[near] = true
				left = append(left, near)
			}
		}
	}
}

func (g ground) standardsStand() bool {
	if len(g.Standards) > api.WoodStandards {
		return false
	}
	taken := map[int]bool{}
	for _, s := range g.Standards {
		if !g.hasCell(s.At) || g.Cells[s.At].Kind == api.CellWater || taken[s.At] {
			return false
		}
		if !within(s.Crown, 0, api.WoodCrown) || !within(s.Dense, 1, 100) {
			return false
		}
		taken[s.At] = true
	}
	return true
}

func (g ground) hasCell(cell int) bool { return within(cell, 0, len(g.Cells)-1) }

func (g ground) hasComp(comp int) bool { return within(comp, 1, g.comps) }

func (g ground) hasSide(s api.Side) bool {
	if s.Upright {
		return within(s.X, 0, g.Width) && within(s.Y, 0, g.Height-1)
	}
	return within(s.X, 0, g.Width-1) && within(s.Y, 0, g.Height)
}

// place returns the corner of a cell that has the cell's own column and row as its numbers.
func (g ground) place(cell int) api.Point { return api.Point{X: cell % g.Width, Y: cell / g.Width} }

// at returns the index of the cell in a column and a row, or outside.
func (g ground) at(x, y int) int {
	if !within(x, 0, g.Width-1) || !within(y, 0, g.Height-1) {
		return outside
	}
	return y*g.Width + x
}

// next returns the neighbor of a cell in a direction, or outside.
func (g ground) next(cell int, d api.Dir) int {
	p := g.place(cell)
	return g.at(p.X+steps[d].X, p.Y+steps[d].Y)
}

// around yields the four directions, each with the neighbor that a cell has there, or outside.
func (g ground) around(cell int) iter.Seq2[api.Dir, int] {
	return func(yield func(api.Dir, int) bool) {
		for d := api.East; d <= api.North; d++ {
			if !yield(d, g.next(cell, d)) {
				return
			}
		}
	}
}

// entries yields the directions in which one comes onto the map over its edge, each with the cell to which one comes.
func (g ground) entries() iter.Seq2[api.Dir, int] {
	return func(yield func(api.Dir, int) bool) {
		for x := range g.Width {
			if !yield(api.South, g.at(x, 0)) || !yield(api.North, g.at(x, g.Height-1)) {
				return
			}
		}
		for y := range g.Height {
			if !yield(api.East, g.at(0, y)) || !yield(api.West, g.at(g.Width-1, y)) {
				return
			}
		}
	}
}

// side returns the side of a cell that lies in a direction.
func (g ground) side(cell int, d api.Dir) api.Side {
	p := g.place(cell)
	switch d {
	case api.East:
		return api.Side{X: p.X + 1, Y: p.Y, Upright: true}
	case api.South:
		return api.Side{X: p.X, Y: p.Y + 1}
	case api.West:
		return api.Side{X: p.X, Y: p.Y, Upright: true}
	default:
		return api.Side{X: p.X, Y: p.Y}
	}
}

// beside returns the cells to the west and to the east of an upright side, or to the north and to the south of a level one.
func (g ground) beside(s api.Side) (int, int) {
	if s.Upright {
		return g.at(s.X-1, s.Y), g.at(s.X, s.Y)
	}
	return g.at(s.X, s.Y-1), g.at(s.X, s.Y)
}

// right returns the direction to the right of another one.
func right(d api.Dir) api.Dir { return d%api.North + 1 }

// left returns the direction to the left of another one.
func left(d api.Dir) api.Dir { return back(right(d)) }

// back returns the direction opposite to another one.
func back(d api.Dir) api.Dir { return right(right(d)) }
