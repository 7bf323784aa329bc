package growth

import "greenhew/api"

// greatestTolerance is by how much a measurement can be wrong at most.
const greatestTolerance = 100000

// checkHistory returns the error of a species, a box and seasons from which a history is to be made.
func checkHistory(s api.Species, b api.Box, l []api.Season) api.Errno {
	if len(l) > api.GrowthSeasons {
		return api.ErrLong
	}
	if !speciesIsDefined(s) || !boxIsDefined(b) || !all(l, seasonIsDefined) {
		return api.ErrArg
	}
	return api.OK
}

func within(n, least, most int) bool { return n >= least && n <= most }

// all reports whether something holds for all of a list.
func all[E any](l []E, holds func(E) bool) bool {
	for _, e := range l {
		if !holds(e) {
			return false
		}
	}
	return true
}

func speciesIsDefined(s api.Species) bool {
	return yearsAreDefined(s.Rise, api.GrowthRise) && yearsAreDefined(s.Thick, api.GrowthThick) &&
		within(s.Top, 1, api.GrowthHeight) && within(s.Stout, 1, api.GrowthGirth) &&
		within(s.Shade, 0, 99) && within(s.Reach, 0, api.GrowthHeight) &&
		ladderIsDefined(s.Ladder) && sproutsAreDefined(s.Sprouts)
}

// yearsAreDefined reports whether what grows in a year is a table by age of numbers up to a greatest one.
func yearsAreDefined(table []int, most int) bool {
	return within(len(table), 1, api.GrowthAges) && all(table, func(n int) bool { return within(n, 0, most) })
}

func ladderIsDefined(l []api.Rung) bool {
	if len(l) > api.GrowthRungs {
		return false
	}
	for i, rung := range l {
		if !within(rung.Height, 1, api.GrowthHeight) || !within(rung.Shoots, 0, api.GrowthShoots) {
			return false
		}
		if i > 0 && (rung.Height <= l[i-1].Height || rung.Shoots >= l[i-1].Shoots) {
			return false
		}
	}
	return true
}

func sproutsAreDefined(l []api.Span) bool {
	return within(len(l), 1, api.GrowthAges) && all(l, func(s api.Span) bool { return isPart(s, api.GrowthShoots) })
}

// isPart reports whether a span is a part of the one from 0 to a number.
func isPart(s api.Span, most int) bool { return s.Low >= 0 && s.Low <= s.High && s.High <= most }

func standIsDefined(x api.Stand) bool {
	return within(x.Age, 0, api.GrowthOld) && within(x.Shoots, 0, api.GrowthShoots) &&
		within(x.Height, 0, api.GrowthHeight) && within(x.Girth, 0, api.GrowthGirth)
}

func weatherIsDefined(w api.Weather) bool {
	return within(w.Light, 0, 100) && within(w.Browse, 0, 100) && within(w.Mild, 0, 200)
}

func boxIsDefined(b api.Box) bool {
	return standIsDefined(b.Low) && standIsDefined(b.High) && b.Low.Age == b.High.Age &&
		b.Low.Shoots <= b.High.Shoots && b.Low.Height <= b.High.Height && b.Low.Girth <= b.High.Girth
}

func seasonIsDefined(q api.Season) bool {
	return isPart(q.Light, 100) && isPart(q.Browse, 100) && isPart(q.Mild, 200)
}

func tooMany(l []api.Sample) bool { return len(l) > api.GrowthSamples }

func samplesAreDefined(l []api.Sample) bool {
	return all(l, func(m api.Sample) bool {
		return m.Kind >= api.SampleShoots && m.Kind <= api.SampleGirth && m.Span.Low <= m.Span.High
	})
}

func toleranceIsDefined(t api.Tolerance) bool {
	return within(t.Shoots, 0, greatestTolerance) && within(t.Height, 0, greatestTolerance) && within(t.Girth, 0, greatestTolerance)
}
