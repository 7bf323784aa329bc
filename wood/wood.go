// Package wood is layer 1: maps of a coppice wood, the walks round its compartments, its light, its deer and fences, the ways of horses, and the sheets on which maps are drawn. See shared/doc/01-wood.md.
package wood

import "greenhew/api"

// Check returns ErrArg for a map that is not as defined.
func Check(m api.WoodMap) api.Errno {
	if _, ok := survey(m); !ok {
		return api.ErrArg
	}
	return api.OK
}

// Cells returns the indexes of the cells of a compartment, in increasing order.
func Cells(m api.WoodMap, comp int) ([]int, api.Errno) {
	g, ok := survey(m)
	if !ok || !g.hasComp(comp) {
		return nil, api.ErrArg
	}
	var cells []int
	for i, c := range g.Cells {
		if c.Comp == comp {
			cells = append(cells, i)
		}
	}
	return cells, api.OK
}

// Borders returns how many sides a compartment shares with each other one that it touches.
func Borders(m api.WoodMap, comp int) ([]api.Border, api.Errno) {
	g, ok := survey(m)
	if !ok || !g.hasComp(comp) {
		return nil, api.ErrArg
	}
	sides := make([]int, g.comps+1)
	for i, c := range g.Cells {
		if c.Comp != comp {
			continue
		}
		for _, near := range g.around(i) {
			if near != outside {
				sides[g.Cells[near].Comp]++
			}
		}
	}
	var borders []api.Border
	for other := 1; other <= g.comps; other++ {
		if other != comp && sides[other] > 0 {
			borders = append(borders, api.Border{Comp: other, Sides: sides[other]})
		}
	}
	return borders, api.OK
}
