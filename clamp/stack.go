package clamp

import (
	"slices"

	"greenhew/api"
)

// Stack returns a clamp of billets, and for each billet the index of its cell, -1 if it is left over.
func Stack(wide, high, room int, flues []int, vents []api.Vent, billets []api.Billet) (api.Clamp, []int, api.Errno) {
	if len(billets) > api.ClampBillets {
		return api.Clamp{}, nil, api.ErrLong
	}
	s, ok := stackOf(wide, high, room, flues, vents)
	if !ok || !all(billets, billetIsDefined) {
		return api.Clamp{}, nil, api.ErrArg
	}
	return s.Clamp, s.lay(billets), api.OK
}

// stack is a clamp that is being stacked, with the room that is left in each cell: less than none in a flue, so that not even a billet of nothing fits there.
type stack struct {
	api.Clamp
	rooms []int
}

// stackOf returns a stack without billets, and whether the arguments are as defined.
func stackOf(wide, high, room int, flues []int, vents []api.Vent) (stack, bool) {
	if !sizeIsDefined(wide, high) || !within(room, 0, api.ClampMass) {
		return stack{}, false
	}
	many := wide * high
	s := stack{
		Clamp: api.Clamp{Wide: wide, High: high, Cells: make([]api.Cell, many), Vents: slices.Clone(vents)},
		rooms: slices.Repeat([]int{room}, many),
	}
	for _, cell := range flues {
		if !within(cell, 0, many-1) {
			return stack{}, false
		}
		s.rooms[cell] = -1
	}
	return s, clampIsDefined(s.Clamp)
}

// lay lays each billet into the first cell that has room for it, and returns these cells; none for a billet that is left over.
func (s stack) lay(billets []api.Billet) []int {
	laid := make([]int, len(billets))
search:
	for i, b := range billets {
		for cell := range s.Cells {
			if b.Wood+b.Water <= s.rooms[cell] {
				s.add(cell, b)
				laid[i] = cell
				continue search
			}
		}
		laid[i] = none
	}
	return laid
}

// add adds a billet to a cell that has room for it.
func (s stack) add(cell int, b api.Billet) {
	s.Cells[cell].Wood += b.Wood
	s.Cells[cell].Water += b.Water
	s.rooms[cell] -= b.Wood + b.Water
}
