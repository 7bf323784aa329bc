package clamp_test

import (
	"math"
	"math/rand"
	"slices"
	"testing"

	"greenhew/api"
	"greenhew/clamp"
)

const (
	white  = api.ColorWhite
	yellow = api.ColorYellow
	blue   = api.ColorBlue
)

// chapterLaws returns the laws e of the chapter.
func chapterLaws() api.Fire {
	return api.Fire{Boil: 100, Latent: 10, Coke: 300, Rate: 20, Yield: 30, Flame: 40, Gas: 5, Glow: 400, Calor: 8, Cinder: 10, Spread: 8, Loss: 10, Resist: 10}
}

// chapterClamp returns the clamp c of the chapter, with a draft.
func chapterClamp(draft int) api.Clamp {
	return api.Clamp{Wide: 2, High: 1, Cells: []api.Cell{{Wood: 50, Water: 5, Heat: 200}, {Wood: 50, Heat: 600}}, Vents: []api.Vent{{Draft: draft}}}
}

// oneCell returns a clamp of one cell, with vents that have these drafts.
func oneCell(x api.Cell, drafts ...int) api.Clamp {
	c := api.Clamp{Wide: 1, High: 1, Cells: []api.Cell{x}}
	for _, d := range drafts {
		c.Vents = append(c.Vents, api.Vent{Draft: d})
	}
	return c
}

// empty returns a clamp with nothing in its cells.
func empty(wide, high int, vents ...api.Vent) api.Clamp {
	return api.Clamp{Wide: wide, High: high, Cells: make([]api.Cell, wide*high), Vents: vents}
}

// always returns a list with the same truth value for each of so many vents.
func always(isOpen bool, vents int) []bool { return slices.Repeat([]bool{isOpen}, vents) }

func sameClamp(a, b api.Clamp) bool {
	return a.Wide == b.Wide && a.High == b.High && slices.Equal(a.Cells, b.Cells) && slices.Equal(a.Vents, b.Vents)
}

func sameMoment(a, b api.Moment) bool {
	return sameClamp(a.Clamp, b.Clamp) && a.Burn == b.Burn && slices.Equal(a.Colors, b.Colors) && slices.Equal(a.Flames, b.Flames)
}

func sameWatch(a, b api.Watch) bool {
	return sameClamp(a.Clamp, b.Clamp) && a.Burn == b.Burn && slices.EqualFunc(a.Colors, b.Colors, slices.Equal) && a.Flamed == b.Flamed
}

func copyOf(c api.Clamp) api.Clamp {
	c.Cells, c.Vents = slices.Clone(c.Cells), slices.Clone(c.Vents)
	return c
}

// stepped returns what a step comes to that must not be refused.
func stepped(t *testing.T, f api.Fire, c api.Clamp, open []bool) api.Moment {
	t.Helper()
	m, err := clamp.Step(f, c, open)
	if err != api.OK {
		t.Fatal(f, c, open, err)
	}
	return m
}

// ran returns what a run comes to that must not be refused.
func ran(t *testing.T, f api.Fire, c api.Clamp, plan [][]bool) api.Watch {
	t.Helper()
	w, err := clamp.Run(f, c, plan)
	if err != api.OK {
		t.Fatal(f, c, plan, err)
	}
	return w
}

func weighed(t *testing.T, c api.Clamp) api.Cell {
	t.Helper()
	x, err := clamp.Weigh(c)
	if err != api.OK {
		t.Fatal(c, err)
	}
	return x
}

// wayOf returns the distance of two cells.
func wayOf(c api.Clamp, one, other int) int {
	columns, courses := one%c.Wide-other%c.Wide, one/c.Wide-other/c.Wide
	return int(math.Abs(float64(columns)) + math.Abs(float64(courses)))
}

// airOf follows the chapter word for word.
func airOf(f api.Fire, c api.Clamp, open []bool, cell int) int {
	air := 0
	for i, v := range c.Vents {
		if n := v.Draft - f.Resist*wayOf(c, cell, v.Cell); open[i] && n > air {
			air = n
		}
	}
	return air
}

// outletOf follows the chapter word for word: the vent through which the smoke of a cell leaves, -1 if none is open.
func outletOf(c api.Clamp, open []bool, cell int) int {
	for way := range c.Wide + c.High {
		for i, v := range c.Vents {
			if open[i] && wayOf(c, cell, v.Cell) == way {
				return i
			}
		}
	}
	return -1
}

// smoked is the grams of white, yellow and blue smoke.
type smoked struct{ white, yellow, blue int }

// cellStep follows the chapter word for word: what one cell comes to when heat has flowed.
func cellStep(f api.Fire, x *api.Cell, air int, isBorder bool, b *api.Burn) smoked {
	var s smoked
	if x.Water > 0 && x.Heat >= f.Boil {
		for s.white < x.Water && (s.white+1)*f.Latent <= x.Heat-f.Boil {
			s.white++
		}
		x.Water -= s.white
		x.Heat -= f.Latent * s.white
	}
	if x.Water == 0 && x.Wood > 0 && x.Heat >= f.Coke {
		w := f.Rate
		if x.Wood < w {
			w = x.Wood
		}
		x.Wood -= w
		x.Char += w * f.Yield / 100
		gas := w - w*f.Yield/100
		if air >= f.Flame {
			s.blue += gas
			b.Flamed += gas
			x.Heat += f.Gas * gas
		} else {
			s.yellow += gas
		}
	}
	if x.Char > 0 && x.Heat >= f.Glow && air > 0 {
		taken := air
		if x.Char < taken {
			taken = x.Char
		}
		x.Char -= taken
		x.Ash += taken / f.Cinder
		s.blue += taken - taken/f.Cinder
		x.Heat += f.Calor * taken
		b.Burnt += taken
	}
	if isBorder {
		b.Lost += x.Heat / f.Loss
		x.Heat -= x.Heat / f.Loss
	}
	b.White += s.white
	b.Yellow += s.yellow
	b.Blue += s.blue
	return s
}

// stepOf follows the chapter word for word, for laws and clamps that are as defined.
func stepOf(f api.Fire, c api.Clamp, open []bool) api.Moment {
	m := api.Moment{Clamp: copyOf(c)}
	for i, x := range c.Cells {
		for k, y := range c.Cells {
			if wayOf(c, i, k) == 1 && x.Heat > y.Heat {
				m.Clamp.Cells[i].Heat -= (x.Heat - y.Heat) / f.Spread
				m.Clamp.Cells[k].Heat += (x.Heat - y.Heat) / f.Spread
			}
		}
	}
	seen := make([]smoked, len(c.Vents))
	for i := range m.Clamp.Cells {
		column, course := i%c.Wide, i/c.Wide
		isBorder := column == 0 || course == 0 || column == c.Wide-1 || course == c.High-1
		flamed := m.Burn.Flamed
		s := cellStep(f, &m.Clamp.Cells[i], airOf(f, c, open, i), isBorder, &m.Burn)
		if m.Burn.Flamed > flamed {
			m.Flames = append(m.Flames, i)
		}
		if v := outletOf(c, open, i); v >= 0 {
			seen[v].white += s.white
			seen[v].yellow += s.yellow
			seen[v].blue += s.blue
		}
	}
	for _, s := range seen {
		m.Colors = append(m.Colors, colorOf(s))
	}
	return m
}

func colorOf(s smoked) api.Color {
	switch {
	case s.white == 0 && s.yellow == 0 && s.blue == 0:
		return api.ColorNone
	case s.white >= s.yellow && s.white >= s.blue:
		return white
	case s.yellow >= s.blue:
		return yellow
	}
	return blue
}

// randomFire returns laws with small numbers, of which many are at their limits.
func randomFire(r *rand.Rand) api.Fire {
	return api.Fire{
		Boil: r.Intn(3) * 50, Latent: 1 + r.Intn(12), Coke: r.Intn(5) * 50, Rate: 1 + r.Intn(25), Yield: []int{0, 30, 100, r.Intn(101)}[r.Intn(4)],
		Flame: 1 + r.Intn(100), Gas: r.Intn(8), Glow: r.Intn(6) * 50, Calor: r.Intn(10), Cinder: 1 + r.Intn(12),
		Spread: 5 + r.Intn(8), Loss: 2 + r.Intn(20), Resist: r.Intn(15),
	}
}

// sometimes returns a number that is less than n, and often 0.
func sometimes(r *rand.Rand, n int) int { return r.Intn(n) * r.Intn(2) }

// randomClamp returns a clamp with small numbers.
func randomClamp(r *rand.Rand) api.Clamp {
	c := empty(1+r.Intn(api.ClampWide), 1+r.Intn(api.ClampHigh))
	for i := range c.Cells {
		c.Cells[i] = api.Cell{Wood: sometimes(r, 60), Water: sometimes(r, 20), Char: sometimes(r, 40), Ash: sometimes(r, 5), Heat: r.Intn(600)}
		if r.Intn(3) == 0 {
			c.Cells[i].Heat = r.Intn(8) * 50
		}
	}
	c.Vents = randomVents(r, c)
	return c
}

// randomVents returns vents for a clamp.
func randomVents(r *rand.Rand, c api.Clamp) []api.Vent {
	var l []api.Vent
	for range r.Intn(api.ClampVents + 1) {
		at := r.Intn(c.Wide)
		switch r.Intn(4) {
		case 0:
			at += c.Wide * (c.High - 1)
		case 1:
			at = c.Wide * r.Intn(c.High)
		case 2:
			at = c.Wide*r.Intn(c.High) + c.Wide - 1
		}
		l = append(l, api.Vent{Cell: at, Draft: r.Intn(90)})
	}
	return l
}

func randomOpen(r *rand.Rand, vents int) []bool {
	open := make([]bool, vents)
	for i := range open {
		open[i] = r.Intn(3) > 0
	}
	return open
}

func randomPlan(r *rand.Rand, vents, steps int) [][]bool {
	var plan [][]bool
	for range steps {
		plan = append(plan, randomOpen(r, vents))
	}
	return plan
}

func randomBillets(r *rand.Rand, many, most int) []api.Billet {
	var l []api.Billet
	for range many {
		l = append(l, api.Billet{Wood: sometimes(r, most+1), Water: sometimes(r, most+1)})
	}
	return l
}

func randomFlues(r *rand.Rand, cells int) []int {
	var l []int
	for range r.Intn(4) {
		l = append(l, r.Intn(cells))
	}
	return l
}

// odd returns a number that is often out of range.
func odd(r *rand.Rand) int {
	l := []int{math.MinInt, -1000, -2, -1, 0, 1, 2, 4, 5, 6, 7, 35, 36, 100, 101, 1000, 1001, 1000000, 1000001, api.ClampHeat, api.ClampHeat + 1, math.MaxInt - 1, math.MaxInt}
	return l[r.Intn(len(l))]
}
