package clamp

import "greenhew/api"

// draft is what a cell has of the open vents: its air, and the vent through which its smoke leaves, none if no vent is open.
type draft struct{ air, vent int }

// draftsOf returns the drafts of all cells.
func draftsOf(laws api.Fire, c api.Clamp, open []bool) []draft {
	var vents []int
	for vent, isOpen := range open {
		if isOpen {
			vents = append(vents, vent)
		}
	}
	drafts := make([]draft, len(c.Cells))
	for cell := range drafts {
		way := func(vent int) int { return distance(c, cell, c.Vents[vent].Cell) }
		vent, ok := nearest(vents, way)
		if !ok {
			vent = none
		}
		air := 0
		for _, v := range vents {
			air = max(air, c.Vents[v].Draft-laws.Resist*way(v))
		}
		drafts[cell] = draft{air: air, vent: vent}
	}
	return drafts
}

// nearest returns the first one of several places to which the way is shortest, and whether there is a place at all.
func nearest[P any](places []P, way func(P) int) (P, bool) {
	var chosen P
	least := 0
	for i, p := range places {
		if n := way(p); i == 0 || n < least {
			chosen, least = p, n
		}
	}
	return chosen, len(places) > 0
}
