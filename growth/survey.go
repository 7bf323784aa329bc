package growth

import (
	"slices"

	"greenhew/api"
)

// Narrow returns a box that samples have narrowed.
func Narrow(b api.Box, l ...api.Sample) (api.Box, api.Errno) {
	if tooMany(l) {
		return api.Box{}, api.ErrLong
	}
	if !boxIsDefined(b) || !samplesAreDefined(l) {
		return api.Box{}, api.ErrArg
	}
	return orNone(narrow(b, l))
}

// Back returns what of a box a season can lead into a later one.
func Back(s api.Species, b api.Box, q api.Season, after api.Box) (api.Box, api.Errno) {
	if !speciesIsDefined(s) || !boxIsDefined(b) || !seasonIsDefined(q) || !boxIsDefined(after) {
		return api.Box{}, api.ErrArg
	}
	g := grower{s}
	return orNone(g.back(b, q, after))
}

// orNone returns a box of which something is left, or ErrNone.
func orNone(b api.Box, left bool) (api.Box, api.Errno) {
	if !left {
		return api.Box{}, api.ErrNone
	}
	return b, api.OK
}

// Smooth returns a history that samples have narrowed, forward and backward.
func Smooth(s api.Species, b api.Box, l []api.Season, samples [][]api.Sample) ([]api.Box, api.Errno) {
	if slices.ContainsFunc(samples, tooMany) {
		return nil, api.ErrLong
	}
	if err := checkHistory(s, b, l); err != api.OK {
		return nil, err
	}
	if len(samples) != len(l)+1 || !all(samples, samplesAreDefined) {
		return nil, api.ErrArg
	}
	g := grower{s}
	var boxes []api.Box
	for _, box := range g.history(b, l, samples) {
		boxes = append(boxes, box)
	}
	if len(boxes) < len(samples) || !g.smooth(boxes, l) {
		return nil, api.ErrNone
	}
	return boxes, api.OK
}

// Ask returns the kind of measurement that leaves the least spread at worst, and this spread.
func Ask(b api.Box, t api.Tolerance) (api.SampleKind, int, api.Errno) {
	if !boxIsDefined(b) || !toleranceIsDefined(t) {
		return 0, 0, api.ErrArg
	}
	wrong := [...]int{api.SampleShoots: t.Shoots, api.SampleHeight: t.Height, api.SampleGirth: t.Girth}
	best, least := api.SampleKind(0), 0
	for _, k := range kinds {
		if spread := promise(b, k, wrong[k]); best == 0 || spread < least {
			best, least = k, spread
		}
	}
	return best, least, api.OK
}

// promise returns the greatest spread of what a measurement of a kind can leave, if it can be wrong by so much.
func promise(b api.Box, k api.SampleKind, wrong int) int {
	greatest := 0
	s := spanOf(b, k)
	for m := s.Low; m <= s.High; m++ {
		left, _ := keep(b, k, api.Span{Low: m - wrong, High: m + wrong})
		greatest = max(greatest, wood(left.High)-wood(left.Low))
	}
	return greatest
}
