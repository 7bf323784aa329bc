package wood

import "greenhew/api"

// Light returns the light of a cell.
func Light(m api.WoodMap, cell int) (int, api.Errno) {
	g, ok := survey(m)
	if !ok || !g.hasCell(cell) {
		return 0, api.ErrArg
	}
	return g.light(cell), api.OK
}

// LightOf returns the light of a compartment.
func LightOf(m api.WoodMap, comp int) (int, api.Errno) {
	g, ok := survey(m)
	if !ok || !g.hasComp(comp) {
		return 0, api.ErrArg
	}
	sum := 0
	for i, c := range g.Cells {
		if c.Comp == comp {
			sum += g.light(i)
		}
	}
	return sum, api.OK
}

func (g ground) light(cell int) int {
	light := 100
	for _, s := range g.Standards {
		if g.shades(s, cell) {
			light -= s.Dense
		}
	}
	return max(light, 0)
}

func (g ground) shades(s api.Standard, cell int) bool {
	a, b := g.place(s.At), g.place(cell)
	dx, dy := a.X-b.X, a.Y-b.Y
	return dx*dx+dy*dy <= s.Crown*s.Crown
}
