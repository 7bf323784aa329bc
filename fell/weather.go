package fell

import "greenhew/api"

// Worst returns the worst season of a forecast.
func Worst(f []api.Forecast) ([]api.Sky, api.Errno) {
	if len(f) > api.FellDays {
		return nil, api.ErrArg
	}
	var skies []api.Sky
	for _, day := range f {
		if !isSky(day.Low) || !isSky(day.High) || day.Low > day.High {
			return nil, api.ErrArg
		}
		skies = append(skies, day.Low)
	}
	return skies, api.OK
}

// Sure reports whether a plan is right in all seasons of a forecast.
func Sure(f []api.Forecast, jobs []api.FellJob, plan []int) (bool, api.Errno) {
	skies, err := Worst(f)
	if err != api.OK {
		return false, err
	}
	g, ok := hire(skies, jobs)
	if !ok {
		return false, api.ErrArg
	}
	// A day that is open under its worst sky is so under each better one.
	return g.isRight(plan), api.OK
}
