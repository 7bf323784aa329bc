package clamp

import (
	"slices"

	"greenhew/api"
)

// smoke is how many grams of smoke have each color. None has ColorNone.
type smoke [api.ColorBlue + 1]int

// color returns the first color of which there is most.
func (s smoke) color() api.Color {
	most := api.ColorNone
	for color, grams := range s {
		if grams > s[most] {
			most = api.Color(color)
		}
	}
	return most
}

// fire is a clamp that burns for a step, and what has come of it so far.
type fire struct {
	api.Clamp
	laws   api.Fire
	drafts []draft
	burn   api.Burn // but for its smoke
	smoke  smoke    // all that has left
	seen   []smoke  // what has left through each vent
	flames []int
}

// step returns what a step comes to, for arguments that are as defined; ErrLong if a cell is too hot after it.
func step(laws api.Fire, c api.Clamp, open []bool) (api.Moment, api.Errno) {
	f := &fire{Clamp: copyOf(c), laws: laws, drafts: draftsOf(laws, c, open), seen: make([]smoke, len(c.Vents))}
	f.flow(c.Cells)
	changes := [...]func(cell int){f.boil, f.turn, f.glow, f.lose}
	for cell := range f.Cells {
		for _, change := range changes {
			change(cell)
		}
	}
	if slices.ContainsFunc(f.Cells, isTooHot) {
		return api.Moment{}, api.ErrLong
	}
	return f.moment(), api.OK
}

// flow lets heat flow between all neighbors at once, as it was in the cells before the step.
func (f *fire) flow(before []api.Cell) {
	for one, other := range neighbors(f.Clamp) {
		// A quotient of a negative number is rounded up, so the hotter one gives as much, whichever it is.
		given := (before[one].Heat - before[other].Heat) / f.laws.Spread
		f.Cells[one].Heat -= given
		f.Cells[other].Heat += given
	}
}

// boil lets water of a cell boil away.
func (f *fire) boil(cell int) {
	x := &f.Cells[cell]
	if x.Heat < f.laws.Boil {
		return
	}
	steam := min(x.Water, (x.Heat-f.laws.Boil)/f.laws.Latent)
	x.Water -= steam
	x.Heat -= steam * f.laws.Latent
	f.leave(cell, api.ColorWhite, steam)
}

// turn turns wood of a dry cell to char and gas.
func (f *fire) turn(cell int) {
	x := &f.Cells[cell]
	if x.Water > 0 || x.Heat < f.laws.Coke {
		return
	}
	wood := min(x.Wood, f.laws.Rate)
	char := wood * f.laws.Yield / 100
	gas := wood - char
	x.Wood -= wood
	x.Char += char
	if gas == 0 || f.drafts[cell].air < f.laws.Flame {
		f.leave(cell, api.ColorYellow, gas)
		return
	}
	x.Heat += gas * f.laws.Gas
	f.burn.Flamed += gas
	f.flames = append(f.flames, cell)
	f.leave(cell, api.ColorBlue, gas)
}

// glow lets char of a cell glow away, as far as it has air.
func (f *fire) glow(cell int) {
	x := &f.Cells[cell]
	if x.Heat < f.laws.Glow {
		return
	}
	char := min(x.Char, f.drafts[cell].air)
	ash := char / f.laws.Cinder
	x.Char -= char
	x.Ash += ash
	x.Heat += char * f.laws.Calor
	f.burn.Burnt += char
	f.leave(cell, api.ColorBlue, char-ash)
}

// lose lets heat of a border cell out.
func (f *fire) lose(cell int) {
	if !isBorder(f.Clamp, cell) {
		return
	}
	x := &f.Cells[cell]
	lost := x.Heat / f.laws.Loss
	x.Heat -= lost
	f.burn.Lost += lost
}

// leave lets smoke out of a cell.
func (f *fire) leave(cell int, color api.Color, grams int) {
	f.smoke[color] += grams
	if vent := f.drafts[cell].vent; vent != none {
		f.seen[vent][color] += grams
	}
}

// moment returns what the step has come to.
func (f *fire) moment() api.Moment {
	colors := make([]api.Color, len(f.seen))
	for vent, s := range f.seen {
		colors[vent] = s.color()
	}
	b := f.burn
	b.White, b.Yellow, b.Blue = f.smoke[api.ColorWhite], f.smoke[api.ColorYellow], f.smoke[api.ColorBlue]
	return api.Moment{Clamp: f.Clamp, Burn: b, Colors: colors, Flames: f.flames}
}

// sum returns what several burns are together.
func sum(burns ...api.Burn) api.Burn {
	var whole api.Burn
	for _, b := range burns {
		whole.White += b.White
		whole.Yellow += b.Yellow
		whole.Blue += b.Blue
		whole.Flamed += b.Flamed
		whole.Burnt += b.Burnt
		whole.Lost += b.Lost
	}
	return whole
}
