package clamp_test

import (
	"math/rand"
	"slices"
	"testing"

	"greenhew/api"
	"greenhew/clamp"
)

// P6.6: Without an open vent nothing flames, no char is burnt, and no color is seen.
func TestShutClamps(t *testing.T) {
	r := rand.New(rand.NewSource(9))
	for range 2000 {
		f, c := randomFire(r), randomClamp(r)
		shut := always(false, len(c.Vents))
		w := ran(t, f, c, slices.Repeat([][]bool{shut}, 5))
		if w.Flamed != -1 || w.Burn.Flamed+w.Burn.Burnt+w.Burn.Blue != 0 {
			t.Fatal(f, c, w)
		}
		for _, colors := range w.Colors {
			if slices.ContainsFunc(colors, func(k api.Color) bool { return k != api.ColorNone }) {
				t.Fatal(f, c, w)
			}
		}
		m := stepped(t, f, c, shut)
		if len(m.Flames) != 0 || !slices.Equal(m.Colors, make([]api.Color, len(c.Vents))) {
			t.Fatal(f, c, m)
		}
	}
}

// mirrored returns a clamp with the columns the other way round.
func mirrored(c api.Clamp) api.Clamp {
	c = copyOf(c)
	for course := range c.High {
		slices.Reverse(c.Cells[course*c.Wide : (course+1)*c.Wide])
	}
	for i, v := range c.Vents {
		c.Vents[i].Cell = mirroredCell(c, v.Cell)
	}
	return c
}

func mirroredCell(c api.Clamp, cell int) int { return cell/c.Wide*c.Wide + c.Wide - 1 - cell%c.Wide }

// P6.6: A clamp and its mirror image burn as mirror images.
func TestMirrorImages(t *testing.T) {
	r := rand.New(rand.NewSource(10))
	for range 2000 {
		f, c := randomFire(r), randomClamp(r)
		plan := randomPlan(r, len(c.Vents), 1+r.Intn(6))
		want, got := ran(t, f, c, plan), ran(t, f, mirrored(c), plan)
		want.Clamp = mirrored(want.Clamp)
		if !sameWatch(got, want) {
			t.Fatal(f, c, plan, got, want)
		}
		m, image := stepped(t, f, c, plan[0]), stepped(t, f, mirrored(c), plan[0])
		for i, cell := range m.Flames {
			m.Flames[i] = mirroredCell(c, cell)
		}
		slices.Sort(m.Flames)
		m.Clamp = mirrored(m.Clamp)
		if !sameMoment(m, image) {
			t.Fatal(f, c, plan, m, image)
		}
	}
}

// P6.6: If all heats are less than Boil, Coke and Glow, nothing changes but heat, and there is no smoke.
func TestColdClamps(t *testing.T) {
	r := rand.New(rand.NewSource(11))
	for range 1000 {
		f, c := randomFire(r), randomClamp(r)
		f.Boil, f.Coke, f.Glow = 600+sometimes(r, 9), 600+sometimes(r, 9), 600+sometimes(r, 9)
		if r.Intn(2) == 0 {
			c.Cells[r.Intn(len(c.Cells))].Heat = 599
		}
		w := ran(t, f, c, randomPlan(r, len(c.Vents), r.Intn(6)))
		if w.Burn != (api.Burn{Lost: w.Burn.Lost}) || w.Flamed != -1 {
			t.Fatal(f, c, w)
		}
		for i := range w.Clamp.Cells {
			w.Clamp.Cells[i].Heat = c.Cells[i].Heat
		}
		if !sameClamp(w.Clamp, c) {
			t.Fatal(f, c, w)
		}
		for _, colors := range w.Colors {
			if !slices.Equal(colors, make([]api.Color, len(c.Vents))) {
				t.Fatal(f, c, w)
			}
		}
	}
}

// call is all arguments of the layer's functions together.
type call struct {
	fire             api.Fire
	clamp            api.Clamp
	open             []bool
	plan             [][]bool
	flues            []int
	billets          []api.Billet
	most, cell, heat int
	room             int
}

func (c call) copy() call {
	c.clamp = copyOf(c.clamp)
	c.open, c.flues, c.billets, c.plan = slices.Clone(c.open), slices.Clone(c.flues), slices.Clone(c.billets), slices.Clone(c.plan)
	for i, open := range c.plan {
		c.plan[i] = slices.Clone(open)
	}
	return c
}

func (c call) equal(o call) bool {
	return sameClamp(c.clamp, o.clamp) && slices.Equal(c.open, o.open) && slices.EqualFunc(c.plan, o.plan, slices.Equal) &&
		slices.Equal(c.flues, o.flues) && slices.Equal(c.billets, o.billets)
}

// answer is what a function returned: numbers, lists, a clamp, colors and its error.
type answer struct {
	err     api.Errno
	numbers []int
	list    []int
	clamp   api.Clamp
	colors  [][]api.Color
}

func (a answer) equal(o answer) bool {
	return a.err == o.err && slices.Equal(a.numbers, o.numbers) && slices.Equal(a.list, o.list) &&
		sameClamp(a.clamp, o.clamp) && slices.EqualFunc(a.colors, o.colors, slices.Equal)
}

// isZero reports whether all of an answer is its zero value, but for the error.
func (a answer) isZero() bool {
	return !slices.ContainsFunc(a.numbers, func(n int) bool { return n != 0 }) && len(a.list) == 0 && sameClamp(a.clamp, api.Clamp{}) && len(a.colors) == 0
}

// fillWith overwrites the memory of a list.
func fillWith[E any](l []E, e E) {
	for i := range l[:cap(l)] {
		l[:cap(l)][i] = e
	}
}

// fill overwrites the memory of an answer, each list with something of its own.
func (a answer) fill() {
	fillWith(a.list, -7)
	fillWith(a.clamp.Cells, api.Cell{Wood: -7})
	fillWith(a.clamp.Vents, api.Vent{Cell: -7})
	for i, colors := range a.colors {
		fillWith(colors, api.Color(-7-i))
	}
}

// isFilled reports whether each list of colors still has what it was filled with.
func (a answer) isFilled() bool {
	for i, colors := range a.colors {
		if slices.ContainsFunc(colors, func(k api.Color) bool { return k != api.Color(-7-i) }) {
			return false
		}
	}
	return true
}

func numbersOf(b api.Burn) []int { return []int{b.White, b.Yellow, b.Blue, b.Flamed, b.Burnt, b.Lost} }

// asked returns the answers of all functions.
func (c call) asked() []answer {
	airs, err1 := clamp.Air(c.fire, c.clamp, c.open)
	m, err2 := clamp.Step(c.fire, c.clamp, c.open)
	w, err3 := clamp.Run(c.fire, c.clamp, c.plan)
	x, err4 := clamp.Weigh(c.clamp)
	brown, err5 := clamp.Brown(c.clamp)
	steps, err6 := clamp.Until(c.fire, c.clamp, c.open, c.most)
	s, in, err7 := clamp.Stack(c.clamp.Wide, c.clamp.High, c.room, c.flues, c.clamp.Vents, c.billets)
	k, err8 := clamp.Kindle(c.clamp, c.cell, c.heat)
	var colors [][]api.Color
	if len(m.Colors) > 0 {
		colors = [][]api.Color{m.Colors}
	}
	return []answer{
		{err: clamp.Check(c.fire, c.clamp)},
		{err: err1, list: airs},
		{err: err2, numbers: numbersOf(m.Burn), list: m.Flames, clamp: m.Clamp, colors: colors},
		{err: err3, numbers: append(numbersOf(w.Burn), w.Flamed), clamp: w.Clamp, colors: w.Colors},
		{err: err4, numbers: []int{x.Wood, x.Water, x.Char, x.Ash, x.Heat}},
		{err: err5, list: brown},
		{err: err6, numbers: []int{steps}},
		{err: err7, list: in, clamp: s},
		{err: err8, clamp: k},
	}
}

// errorsOf returns which errors each function can return, in the order of their answers.
func errorsOf() [][]api.Errno {
	arg, long := []api.Errno{api.OK, api.ErrArg}, []api.Errno{api.OK, api.ErrArg, api.ErrLong}
	return [][]api.Errno{arg, arg, long, long, arg, arg, {api.OK, api.ErrArg, api.ErrLong, api.ErrNone}, long, long}
}

// randomCall returns arguments that are as defined.
func randomCall(r *rand.Rand) call {
	c := call{fire: randomFire(r), clamp: randomClamp(r), most: r.Intn(20), heat: r.Intn(100), room: r.Intn(100), billets: randomBillets(r, r.Intn(9), 30)}
	c.open, c.plan = randomOpen(r, len(c.clamp.Vents)), randomPlan(r, len(c.clamp.Vents), r.Intn(5))
	c.cell, c.flues = r.Intn(len(c.clamp.Cells)), randomFlues(r, len(c.clamp.Cells))
	return c
}

// spoil puts something odd into arguments.
func spoil(r *rand.Rand, c *call) {
	switch r.Intn(9) {
	case 0:
		l := bounds()
		*l[r.Intn(len(l))].of(&c.fire) = odd(r)
	case 1:
		c.clamp.Wide = odd(r)
	case 2:
		c.clamp.High = odd(r)
	case 3:
		c.clamp.Cells[r.Intn(len(c.clamp.Cells))] = api.Cell{Wood: odd(r), Water: odd(r), Char: odd(r), Ash: odd(r), Heat: odd(r)}
	case 4:
		c.clamp.Vents = append(c.clamp.Vents, api.Vent{Cell: odd(r), Draft: odd(r)})
	case 5:
		c.open, c.plan = randomOpen(r, r.Intn(9)), append(c.plan, randomOpen(r, r.Intn(9)))
	case 6:
		c.flues = append(c.flues, odd(r))
	case 7:
		c.billets = append(c.billets, api.Billet{Wood: odd(r), Water: odd(r)})
	default:
		c.most, c.cell, c.heat, c.room = odd(r), odd(r), odd(r), odd(r)
	}
}

func TestFunctionsAnswerForAllArguments(t *testing.T) {
	r := rand.New(rand.NewSource(12))
	known := errorsOf()
	for range 20000 {
		c := randomCall(r)
		for range r.Intn(4) {
			spoil(r, &c)
		}
		before := c.copy()
		l := c.asked()
		if !c.equal(before) {
			t.Fatal("arguments have changed:", before, c)
		}
		for i, a := range l {
			if !slices.Contains(known[i], a.err) || a.err != api.OK && !a.isZero() {
				t.Fatal(before, i, a)
			}
		}
	}
}

func TestResultsAreNewMemory(t *testing.T) {
	r := rand.New(rand.NewSource(13))
	for range 1000 {
		c := randomCall(r)
		before, first := c.copy(), c.asked()
		second := c.asked()
		for i, a := range first {
			if !a.equal(second[i]) {
				t.Fatal("not the same again:", before, i, a, second[i])
			}
			a.fill()
			if !a.isFilled() {
				t.Fatal("results share memory:", before, i, a)
			}
		}
		third := c.asked()
		if !c.equal(before) || !slices.EqualFunc(second, third, answer.equal) {
			t.Fatal("a result shares memory with arguments or others:", before, c)
		}
	}
}
