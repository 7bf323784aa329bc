package wood_test

import (
	"math/rand"
	"slices"
	"testing"

	"greenhew/api"
	"greenhew/wood"
)

// example is the sheet of the chapter's map.
const example = "wood 4 3\nf0 b2 r1 w\nf0 1:3:4 1:5:0 2:0:2\nf0 1:3:1 r1 2:0:6\nstandard 5 1 60\n"

var dirs = []api.Dir{api.East, api.South, api.West, api.North}

func read(t *testing.T, sheet string) api.WoodMap {
	t.Helper()
	m, e := wood.Read(sheet)
	if e != api.OK {
		t.Fatalf("%q is no sheet of a map: error %d", sheet, e)
	}
	return m
}

func show(m api.WoodMap) string {
	s, _ := wood.Print(m)
	return s
}

func clone(m api.WoodMap) api.WoodMap {
	m.Cells = slices.Clone(m.Cells)
	m.Standards = slices.Clone(m.Standards)
	return m
}

func sameMap(a, b api.WoodMap) bool {
	return a.Width == b.Width && a.Height == b.Height && slices.Equal(a.Cells, b.Cells) && slices.Equal(a.Standards, b.Standards)
}

// beyond returns the neighbor of a cell in a direction, or -1.
func beyond(m api.WoodMap, cell int, d api.Dir) int {
	x, y := cell%m.Width, cell/m.Width
	switch {
	case d == api.East && x+1 < m.Width:
		return cell + 1
	case d == api.South && y+1 < m.Height:
		return cell + m.Width
	case d == api.West && x > 0:
		return cell - 1
	case d == api.North && y > 0:
		return cell - m.Width
	}
	return -1
}

func sideOf(m api.WoodMap, cell int, d api.Dir) api.Side {
	x, y := cell%m.Width, cell/m.Width
	return map[api.Dir]api.Side{
		api.East:  {X: x + 1, Y: y, Upright: true},
		api.South: {X: x, Y: y + 1},
		api.West:  {X: x, Y: y, Upright: true},
		api.North: {X: x, Y: y},
	}[d]
}

// allSides returns all sides of a map in the order of a fence.
func allSides(m api.WoodMap) []api.Side {
	var l []api.Side
	for y := 0; y <= m.Height; y++ {
		for x := 0; x <= m.Width; x++ {
			if x < m.Width {
				l = append(l, api.Side{X: x, Y: y})
			}
			if y < m.Height {
				l = append(l, api.Side{X: x, Y: y, Upright: true})
			}
		}
	}
	return l
}

// comps returns how many compartments a map has.
func comps(m api.WoodMap) int {
	n := 0
	for _, c := range m.Cells {
		n = max(n, c.Comp)
	}
	return n
}

// randomMap returns a map of the size, with at least one compartment.
func randomMap(r *rand.Rand, width, height int) api.WoodMap {
	m := api.WoodMap{Width: width, Height: height, Cells: make([]api.WoodCell, width*height)}
	for n := 1; n <= 1+r.Intn(4); n++ {
		growComp(r, m, n)
	}
	kinds := []api.CellKind{api.CellRide, api.CellBank, api.CellWater, api.CellField}
	for i := range m.Cells {
		if m.Cells[i].Kind == 0 {
			m.Cells[i].Kind = kinds[r.Intn(len(kinds))]
			if m.Cells[i].Kind != api.CellWater {
				m.Cells[i].Soft = r.Intn(10)
			}
		}
		if m.Cells[i].Kind != api.CellWater && r.Intn(5) == 0 && len(m.Standards) < api.WoodStandards {
			m.Standards = append(m.Standards, api.Standard{At: i, Crown: r.Intn(4), Dense: 1 + r.Intn(100)})
		}
	}
	return m
}

// growComp makes a connected piece of cells that have no kind yet a compartment; if it finds none, the number stays free, and so do the following ones.
func growComp(r *rand.Rand, m api.WoodMap, n int) {
	if n > 1 && !slices.ContainsFunc(m.Cells, func(c api.WoodCell) bool { return c.Comp == n-1 }) {
		return
	}
	at := r.Intn(len(m.Cells))
	if m.Cells[at].Kind != 0 {
		return
	}
	piece := []int{at}
	for range 1 + r.Intn(len(m.Cells)) {
		to := beyond(m, piece[r.Intn(len(piece))], dirs[r.Intn(4)])
		if to >= 0 && m.Cells[to].Kind == 0 && !slices.Contains(piece, to) {
			piece = append(piece, to)
		}
	}
	for _, i := range piece {
		m.Cells[i] = api.WoodCell{Kind: api.CellWood, Comp: n, Soft: r.Intn(10), Stools: r.Intn(1 + api.WoodStools)}
	}
}

// randomFence returns a fence of some of a map's sides.
func randomFence(r *rand.Rand, m api.WoodMap) []api.Side {
	var fence []api.Side
	for _, s := range allSides(m) {
		if r.Intn(4) == 0 {
			fence = append(fence, s)
		}
	}
	return fence
}

// joined returns two fences as one.
func joined(a, b []api.Side) []api.Side {
	l := slices.Concat(a, b)
	slices.SortFunc(l, inFence)
	return slices.Compact(l)
}

func inFence(a, b api.Side) int {
	if a.Y != b.Y {
		return a.Y - b.Y
	}
	if a.X != b.X {
		return a.X - b.X
	}
	if a.Upright == b.Upright {
		return 0
	}
	if b.Upright {
		return -1
	}
	return 1
}

// someComps returns some compartments of a map, at least one.
func someComps(r *rand.Rand, m api.WoodMap) []int {
	var l []int
	for n := 1; n <= comps(m); n++ {
		if r.Intn(2) == 0 {
			l = append(l, n)
		}
	}
	if len(l) == 0 {
		return []int{1}
	}
	return l
}
