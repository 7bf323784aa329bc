package coupe

import (
	"slices"

	"greenhew/api"
	"greenhew/growth"
)

// Yields returns the sure yields of a coupe.
func Yields(s api.Species, q api.Season, stools, most int) ([]int, api.Errno) {
	if growth.Check(s) != api.OK || q.Cut || !within(stools, 0, api.CoupeStools) || !within(most, 1, api.CoupeAge) {
		return nil, api.ErrArg
	}
	shoots := s.Sprouts[min(most, len(s.Sprouts)-1)]
	cut := api.Box{Low: api.Stand{Shoots: shoots.Low}, High: api.Stand{Shoots: shoots.High}}
	boxes, err := growth.History(s, cut, slices.Repeat([]api.Season{q}, most))
	if err != api.OK {
		return nil, err
	}
	yields := make([]int, len(boxes))
	for age, box := range boxes {
		wood, _, err := growth.Woods(box)
		if err != api.OK {
			return nil, err
		}
		yields[age] = min(stools*wood, api.CoupeYield)
	}
	return yields, api.OK
}
