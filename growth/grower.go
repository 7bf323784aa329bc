package growth

import (
	"iter"
	"slices"

	"greenhew/api"
)

// grower grows the stools of a species that is as defined.
type grower struct {
	api.Species
}

// law returns the number of one kind that a stand has after a year.
type law func(x api.Stand, w api.Weather) int

// grow returns a stand after a year.
func (g *grower) grow(x api.Stand, w api.Weather) api.Stand {
	laws := [...]law{api.SampleShoots: g.shoots, api.SampleHeight: g.height, api.SampleGirth: g.girth}
	y := api.Stand{Age: min(x.Age+1, api.GrowthOld)}
	for _, k := range kinds {
		*number(&y, k) = laws[k](x, w)
	}
	return y
}

// shoots is the law of shoots. They get fewer from rung to rung, so the last rung that is reached is the one that counts.
func (g *grower) shoots(x api.Stand, w api.Weather) int {
	height, left := g.height(x, w), x.Shoots
	for _, rung := range g.Ladder {
		if rung.Height <= height {
			left = min(left, rung.Shoots)
		}
	}
	return left
}

// height is the law of height.
func (g *grower) height(x api.Stand, w api.Weather) int {
	rise := g.inWeather(atAge(g.Rise, x.Age), w)
	if x.Height < g.Reach {
		rise = rise * (100 - w.Browse) / 100
	}
	return min(x.Height+rise, g.Top)
}

// girth is the law of girth.
func (g *grower) girth(x api.Stand, w api.Weather) int {
	thick := g.inWeather(atAge(g.Thick, x.Age), w)
	return min(x.Girth+thick*100/(100+x.Shoots), g.Stout)
}

// inWeather returns what a year's weather leaves of what grows in a usual year with full light, or makes of it.
func (g *grower) inWeather(usual int, w api.Weather) int {
	light := max(0, w.Light-g.Shade)
	return usual * light * w.Mild / (100 * (100 - g.Shade))
}

// atAge returns what a table by age has for an age; its last entry is for all greater ages, too.
func atAge[E any](table []E, age int) E { return table[min(age, len(table)-1)] }

// step returns the least box that contains all that stands of a box can be after a season.
func (g *grower) step(b api.Box, q api.Season) api.Box {
	if q.Cut {
		b = g.cut(b)
	}
	poor := api.Weather{Light: q.Light.Low, Browse: q.Browse.High, Mild: q.Mild.Low}
	rich := api.Weather{Light: q.Light.High, Browse: q.Browse.Low, Mild: q.Mild.High}
	c := crossed(b)
	return crossed(api.Box{Low: g.grow(c.Low, poor), High: g.grow(c.High, rich)})
}

// crossed returns a box with the shoots of its two stands exchanged. Where shoots are many they stay thin, and where they are high they get few: of all stands inside a box, the low and thin one with the most shoots becomes the lowest and thinnest one with the most shoots in a poor year, and the high and thick one with the fewest shoots becomes the highest and thickest one with the fewest shoots in a rich year.
func crossed(b api.Box) api.Box {
	b.Low.Shoots, b.High.Shoots = b.High.Shoots, b.Low.Shoots
	return b
}

// cut returns the box of what the stools of a box can be when they have been cut.
func (g *grower) cut(b api.Box) api.Box {
	sprouts := atAge(g.Sprouts, b.Low.Age)
	return api.Box{Low: api.Stand{Shoots: sprouts.Low}, High: api.Stand{Shoots: sprouts.High}}
}

// history yields the boxes of a history with their indexes, each box narrowed by its samples (if there is a list for it) before the next step. It ends early if nothing is left of a box.
func (g *grower) history(b api.Box, l []api.Season, samples [][]api.Sample) iter.Seq2[int, api.Box] {
	return func(yield func(int, api.Box) bool) {
		box, left := b, true
		for i := range len(l) + 1 {
			if i > 0 {
				box = g.step(box, l[i-1])
			}
			if i < len(samples) {
				box, left = narrow(box, samples[i])
			}
			if !left || !yield(i, box) {
				return
			}
		}
	}
}

// back returns what of a box a season can lead into a later box, and whether anything is left.
func (g *grower) back(b api.Box, q api.Season, after api.Box) (api.Box, bool) {
	next := g.step(b, q)
	if q.Cut {
		_, meet := common(next, after)
		return b, meet
	}
	if next.Low.Age != after.Low.Age {
		return api.Box{}, false
	}
	narrowed, left := b, true
	for _, k := range kinds {
		narrowed, left = keep(narrowed, k, g.leading(b, q, after, k))
		if !left {
			return api.Box{}, false
		}
	}
	return narrowed, true
}

// leading returns the numbers of a kind in a box that a season can lead to numbers of that kind in a later box; Low is greater than High if there are none. With a greater number before, neither bound of the step is less, so what stays begins where the step comes up to the later box, and ends before the step goes beyond it.
func (g *grower) leading(b api.Box, q api.Season, after api.Box, k api.SampleKind) api.Span {
	from, to := spanOf(b, k), spanOf(after, k)
	stepOf := func(n int) api.Span {
		alone, _ := keep(b, k, api.Span{Low: n, High: n})
		return spanOf(g.step(alone, q), k)
	}
	enough := first(from.Low, from.High, func(n int) bool { return stepOf(n).High >= to.Low })
	beyond := first(from.Low, from.High, func(n int) bool { return stepOf(n).Low > to.High })
	return api.Span{Low: enough, High: beyond - 1}
}

// smooth replaces the boxes of a history by what the boxes before and after them leave, and reports whether something is left of each one.
func (g *grower) smooth(boxes []api.Box, l []api.Season) bool {
	left := true
rounds:
	for range api.GrowthRounds {
		before := slices.Clone(boxes)
		for i := len(l) - 1; i >= 0; i-- {
			if boxes[i], left = g.back(boxes[i], l[i], boxes[i+1]); !left {
				break rounds
			}
		}
		for i, q := range l {
			if boxes[i+1], left = common(boxes[i+1], g.step(boxes[i], q)); !left {
				break rounds
			}
		}
		if slices.Equal(boxes, before) {
			break
		}
	}
	return left
}
