package clamp

import "greenhew/api"

const (
	// greatest is the greatest number that a law, a draft, or the wood or the water of a billet can be, if it is no heat.
	greatest = 1000
	// hottest is the greatest number of a law of heat.
	hottest = 1000000
	// none stands for no cell, no vent and no step, where the index of one is expected.
	none = -1
)

func within(n, least, most int) bool { return n >= least && n <= most }

// all reports whether something holds for all of a list.
func all[E any](l []E, holds func(E) bool) bool {
	for _, e := range l {
		if !holds(e) {
			return false
		}
	}
	return true
}

// canBurn reports whether laws, a clamp and the open vents of some steps are as defined.
func canBurn(f api.Fire, c api.Clamp, plan ...[]bool) bool {
	return lawsAreDefined(f) && clampIsDefined(c) && all(plan, func(open []bool) bool { return len(open) == len(c.Vents) })
}

func lawsAreDefined(f api.Fire) bool {
	return within(f.Boil, 0, hottest) && within(f.Coke, 0, hottest) && within(f.Glow, 0, hottest) &&
		within(f.Latent, 1, greatest) && within(f.Rate, 1, greatest) && within(f.Yield, 0, 100) &&
		within(f.Flame, 1, greatest) && within(f.Gas, 0, greatest) &&
		within(f.Calor, 0, greatest) && within(f.Cinder, 1, greatest) &&
		within(f.Spread, 5, greatest) && within(f.Loss, 2, hottest) && within(f.Resist, 0, greatest)
}

func clampIsDefined(c api.Clamp) bool {
	return sizeIsDefined(c.Wide, c.High) && len(c.Cells) == c.Wide*c.High && all(c.Cells, cellIsDefined) &&
		len(c.Vents) <= api.ClampVents && all(c.Vents, func(v api.Vent) bool { return ventIsDefined(c, v) })
}

func sizeIsDefined(wide, high int) bool {
	return within(wide, 1, api.ClampWide) && within(high, 1, api.ClampHigh)
}

func cellIsDefined(x api.Cell) bool {
	// The sum of any four numbers could be too great for an int, so each one is held against what those before it leave.
	left := api.ClampMass
	for _, grams := range [...]int{x.Wood, x.Water, x.Char, x.Ash} {
		if !within(grams, 0, left) {
			return false
		}
		left -= grams
	}
	return within(x.Heat, 0, api.ClampHeat)
}

// ventIsDefined reports whether a vent is one of a clamp whose size and cells are as defined.
func ventIsDefined(c api.Clamp, v api.Vent) bool {
	return within(v.Cell, 0, len(c.Cells)-1) && isBorder(c, v.Cell) && within(v.Draft, 0, greatest)
}

func billetIsDefined(b api.Billet) bool {
	return within(b.Wood, 0, greatest) && within(b.Water, 0, greatest)
}
