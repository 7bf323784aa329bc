package clamp_test

import (
	"math"
	"slices"
	"testing"

	"greenhew/api"
	"greenhew/clamp"
)

// bound is the least and the greatest number of a law.
type bound struct {
	name        string
	of          func(*api.Fire) *int
	least, most int
}

func bounds() []bound {
	return []bound{
		{"Boil", func(f *api.Fire) *int { return &f.Boil }, 0, 1000000},
		{"Latent", func(f *api.Fire) *int { return &f.Latent }, 1, 1000},
		{"Coke", func(f *api.Fire) *int { return &f.Coke }, 0, 1000000},
		{"Rate", func(f *api.Fire) *int { return &f.Rate }, 1, 1000},
		{"Yield", func(f *api.Fire) *int { return &f.Yield }, 0, 100},
		{"Flame", func(f *api.Fire) *int { return &f.Flame }, 1, 1000},
		{"Gas", func(f *api.Fire) *int { return &f.Gas }, 0, 1000},
		{"Glow", func(f *api.Fire) *int { return &f.Glow }, 0, 1000000},
		{"Calor", func(f *api.Fire) *int { return &f.Calor }, 0, 1000},
		{"Cinder", func(f *api.Fire) *int { return &f.Cinder }, 1, 1000},
		{"Spread", func(f *api.Fire) *int { return &f.Spread }, 5, 1000},
		{"Loss", func(f *api.Fire) *int { return &f.Loss }, 2, 1000000},
		{"Resist", func(f *api.Fire) *int { return &f.Resist }, 0, 1000},
	}
}

// lawsAreRefused checks that all functions that burn refuse laws and a clamp, also for steps that are none.
func lawsAreRefused(t *testing.T, f api.Fire, c api.Clamp) {
	t.Helper()
	open := make([]bool, len(c.Vents))
	if err := clamp.Check(f, c); err != api.ErrArg {
		t.Error(f, c, err)
	}
	if airs, err := clamp.Air(f, c, open); err != api.ErrArg || len(airs) != 0 {
		t.Error(f, c, airs, err)
	}
	if m, err := clamp.Step(f, c, open); err != api.ErrArg || !sameMoment(m, api.Moment{}) {
		t.Error(f, c, m, err)
	}
	for _, plan := range [][][]bool{nil, {open}} {
		if w, err := clamp.Run(f, c, plan); err != api.ErrArg || !sameWatch(w, api.Watch{}) {
			t.Error(f, c, w, err)
		}
	}
	for _, most := range []int{0, 10} {
		if n, err := clamp.Until(f, c, open, most); err != api.ErrArg || n != 0 {
			t.Error(f, c, n, err)
		}
	}
}

// clampIsRefused checks that all functions refuse a clamp.
func clampIsRefused(t *testing.T, c api.Clamp) {
	t.Helper()
	lawsAreRefused(t, chapterLaws(), c)
	if x, err := clamp.Weigh(c); err != api.ErrArg || x != (api.Cell{}) {
		t.Error(c, x, err)
	}
	if l, err := clamp.Brown(c); err != api.ErrArg || len(l) != 0 {
		t.Error(c, l, err)
	}
	if k, err := clamp.Kindle(c, 0, 0); err != api.ErrArg || !sameClamp(k, api.Clamp{}) {
		t.Error(c, k, err)
	}
}

func TestBoundsOfLaws(t *testing.T) {
	for _, b := range bounds() {
		for _, n := range []int{b.least, b.most} {
			f := chapterLaws()
			*b.of(&f) = n
			if err := clamp.Check(f, chapterClamp(45)); err != api.OK {
				t.Error(b.name, n, err)
			}
		}
		for _, n := range []int{b.least - 1, b.most + 1, math.MinInt, math.MaxInt} {
			f := chapterLaws()
			*b.of(&f) = n
			lawsAreRefused(t, f, chapterClamp(45))
			lawsAreRefused(t, f, oneCell(api.Cell{}))
		}
	}
	lawsAreRefused(t, api.Fire{}, chapterClamp(45))
}

func TestClampsThatAreNone(t *testing.T) {
	for name, change := range map[string]func(c *api.Clamp){
		"no columns":            func(c *api.Clamp) { c.Wide = 0 },
		"less than no columns":  func(c *api.Clamp) { c.Wide, c.High = -2, -1 },
		"other columns":         func(c *api.Clamp) { c.Wide = 1 },
		"no courses":            func(c *api.Clamp) { c.High = 0 },
		"less than no courses":  func(c *api.Clamp) { c.High = -1 },
		"great numbers":         func(c *api.Clamp) { c.Wide, c.High = math.MaxInt, math.MaxInt },
		"least numbers":         func(c *api.Clamp) { c.Wide, c.High = math.MinInt, math.MinInt },
		"nothing at all":        func(c *api.Clamp) { *c = api.Clamp{} },
		"no cells":              func(c *api.Clamp) { c.Cells = nil },
		"a cell too few":        func(c *api.Clamp) { c.Cells = c.Cells[:1] },
		"a cell too many":       func(c *api.Clamp) { c.Cells = append(c.Cells, api.Cell{}) },
		"too wide":              func(c *api.Clamp) { *c = empty(api.ClampWide+1, 1) },
		"too high":              func(c *api.Clamp) { *c = empty(1, api.ClampHigh+1) },
		"less than no wood":     func(c *api.Clamp) { c.Cells[1].Wood = -1 },
		"less than no water":    func(c *api.Clamp) { c.Cells[1].Water = -1 },
		"less than no char":     func(c *api.Clamp) { c.Cells[0].Char = -1 },
		"less than no ash":      func(c *api.Clamp) { c.Cells[0].Ash = -1 },
		"less than no heat":     func(c *api.Clamp) { c.Cells[0].Heat = -1 },
		"the least wood":        func(c *api.Clamp) { c.Cells[0].Wood = math.MinInt },
		"too hot":               func(c *api.Clamp) { c.Cells[1].Heat = api.ClampHeat + 1 },
		"too much wood":         func(c *api.Clamp) { c.Cells[1].Wood = api.ClampMass + 1 },
		"too much with water":   func(c *api.Clamp) { c.Cells[1].Water = api.ClampMass - 49 },
		"too much with char":    func(c *api.Clamp) { c.Cells[0].Char = api.ClampMass - 54 },
		"too much with ash":     func(c *api.Clamp) { c.Cells[0].Ash = api.ClampMass - 54 },
		"a sum beyond all ints": func(c *api.Clamp) { c.Cells[0] = api.Cell{Wood: math.MaxInt, Water: math.MaxInt, Char: 2} },
		"less to make up":       func(c *api.Clamp) { c.Cells[0] = api.Cell{Wood: api.ClampMass + 1, Ash: -1} },
		"a vent too many":       func(c *api.Clamp) { c.Vents = make([]api.Vent, api.ClampVents+1) },
		"a vent before all":     func(c *api.Clamp) { c.Vents[0].Cell = -1 },
		"a vent behind all":     func(c *api.Clamp) { c.Vents[0].Cell = 2 },
		"a vent far away":       func(c *api.Clamp) { c.Vents[0].Cell = math.MaxInt },
		"less than no draft":    func(c *api.Clamp) { c.Vents[0].Draft = -1 },
		"too great a draft":     func(c *api.Clamp) { c.Vents[0].Draft = 1001 },
		"the second vent":       func(c *api.Clamp) { c.Vents = append(c.Vents, api.Vent{Cell: 3}) },
	} {
		c := chapterClamp(45)
		change(&c)
		t.Run(name, func(t *testing.T) { clampIsRefused(t, c) })
	}
}

func TestClampsAtTheirLimits(t *testing.T) {
	full := []api.Cell{
		{Wood: api.ClampMass}, {Water: api.ClampMass}, {Char: api.ClampMass}, {Ash: api.ClampMass, Heat: api.ClampHeat},
		{Wood: 1, Water: 2, Char: 3, Ash: api.ClampMass - 6}, {},
	}
	for _, c := range []api.Clamp{
		oneCell(api.Cell{}),
		oneCell(api.Cell{}, 0, 1000, 0, 1000, 0, 1000),
		{Wide: 6, High: 1, Cells: full},
		{Wide: 1, High: 6, Cells: full, Vents: []api.Vent{{Cell: 5, Draft: 1000}}},
		{Wide: 3, High: 2, Cells: full, Vents: []api.Vent{{Cell: 4}}},
		empty(api.ClampWide, api.ClampHigh),
	} {
		if err := clamp.Check(chapterLaws(), c); err != api.OK {
			t.Error(c, err)
		}
	}
}

func TestVentsAreAtBorderCells(t *testing.T) {
	for _, x := range []struct {
		wide, high int
		inside     []int
	}{
		{1, 1, nil}, {6, 1, nil}, {1, 6, nil}, {6, 2, nil}, {2, 6, nil}, {3, 3, []int{4}}, {4, 3, []int{5, 6}}, {3, 4, []int{4, 7}},
		{6, 6, []int{7, 8, 9, 10, 13, 14, 15, 16, 19, 20, 21, 22, 25, 26, 27, 28}},
	} {
		for cell := range x.wide * x.high {
			c := empty(x.wide, x.high, api.Vent{Cell: cell})
			want := api.OK
			if slices.Contains(x.inside, cell) {
				want = api.ErrArg
				clampIsRefused(t, c)
			}
			if err := clamp.Check(chapterLaws(), c); err != want {
				t.Error(c, err)
			}
		}
	}
}

func TestOpenVentsThatAreNone(t *testing.T) {
	f, c := chapterLaws(), chapterClamp(45)
	c.Vents = append(c.Vents, api.Vent{Cell: 1, Draft: 20})
	for _, open := range [][]bool{nil, {}, {true}, {true, true, true}} {
		if airs, err := clamp.Air(f, c, open); err != api.ErrArg || len(airs) != 0 {
			t.Error(open, airs, err)
		}
		if m, err := clamp.Step(f, c, open); err != api.ErrArg || !sameMoment(m, api.Moment{}) {
			t.Error(open, m, err)
		}
		if n, err := clamp.Until(f, c, open, 10); err != api.ErrArg || n != 0 {
			t.Error(open, n, err)
		}
		for _, plan := range [][][]bool{{open}, {{true, true}, {false, true}, open}} {
			if w, err := clamp.Run(f, c, plan); err != api.ErrArg || !sameWatch(w, api.Watch{}) {
				t.Error(open, w, err)
			}
		}
	}
	if m, err := clamp.Step(f, oneCell(api.Cell{}), []bool{false}); err != api.ErrArg || !sameMoment(m, api.Moment{}) {
		t.Error(m, err)
	}
}
