package clamp_test

import (
	"math"
	"math/rand"
	"slices"
	"testing"

	"greenhew/api"
	"greenhew/clamp"
)

func TestStackOfTheChapter(t *testing.T) {
	want := empty(2, 2)
	want.Cells[0], want.Cells[2] = api.Cell{Wood: 90, Water: 10}, api.Cell{Wood: 50}
	c, in, err := clamp.Stack(2, 2, 100, []int{1}, nil, []api.Billet{{Wood: 60, Water: 10}, {Wood: 50}, {Wood: 30}, {Wood: 90, Water: 20}})
	if err != api.OK || !slices.Equal(in, []int{0, 2, 0, -1}) || !sameClamp(c, want) {
		t.Error(c, in, err)
	}
}

func TestWhereBilletsLie(t *testing.T) {
	one, nothing := api.Billet{Wood: 1}, api.Billet{}
	for name, x := range map[string]struct {
		room    int
		flues   []int
		billets []api.Billet
		want    []int
	}{
		"no billets":               {100, nil, nil, nil},
		"nothing in the first one": {100, nil, []api.Billet{nothing, nothing}, []int{0, 0}},
		"nothing without room":     {0, []int{0}, []api.Billet{nothing, one, nothing}, []int{1, -1, 1}},
		"nothing in a flue":        {100, []int{0, 1, 2}, []api.Billet{nothing, one}, []int{-1, -1}},
		"full with wood":           {100, nil, []api.Billet{{Wood: 100}, nothing, one, {Wood: 100}}, []int{0, 0, 1, 2}},
		"full with water":          {100, nil, []api.Billet{{Water: 100}, {Water: 1}, one}, []int{0, 1, 1}},
		"full with both":           {100, nil, []api.Billet{{Wood: 60, Water: 40}, {Water: 1}}, []int{0, 1}},
		"too great":                {100, nil, []api.Billet{{Wood: 60, Water: 41}, {Wood: 101}, {Water: 101}, one}, []int{-1, -1, -1, 0}},
		"first where there is room": {100, nil, []api.Billet{{Wood: 60}, {Wood: 60}, {Wood: 60}, {Wood: 60}, {Wood: 40}, {Wood: 41}, {Wood: 40}},
			[]int{0, 1, 2, -1, 0, -1, 1}},
		"the last cell":         {5, []int{1, 0}, []api.Billet{{Wood: 5}, {Water: 5}}, []int{2, -1}},
		"a flue more than once": {5, []int{1, 1, 1}, []api.Billet{{Wood: 5}, {Water: 5}, one}, []int{0, 2, -1}},
		"the greatest billet":   {1999, nil, []api.Billet{{Wood: 1000, Water: 1000}, {Wood: 1000, Water: 999}}, []int{-1, 0}},
		"the greatest room":     {api.ClampMass, nil, slices.Repeat([]api.Billet{{Wood: 1000, Water: 1000}}, api.ClampBillets), make([]int, api.ClampBillets)},
	} {
		for _, size := range [][2]int{{3, 1}, {1, 3}} {
			c, in, err := clamp.Stack(size[0], size[1], x.room, x.flues, nil, x.billets)
			if err != api.OK || !slices.Equal(in, x.want) || clamp.Check(chapterLaws(), c) != api.OK {
				t.Error(name, c, in, err)
			}
		}
	}
}

func TestStacksHaveTheirVents(t *testing.T) {
	vents := []api.Vent{{Cell: 5, Draft: 45}, {Cell: 0, Draft: 1000}, {Cell: 5}}
	if c, in, err := clamp.Stack(3, 2, 10, []int{5}, vents, nil); err != api.OK || len(in) != 0 || !sameClamp(c, empty(3, 2, vents...)) {
		t.Error(c, in, err)
	}
}

// stackOf follows the chapter word for word: for each billet, it looks at all that is in each cell.
func stackOf(cells, room int, flues []int, billets []api.Billet) []int {
	var in []int
	for _, b := range billets {
		first := -1
		for cell := cells - 1; cell >= 0; cell-- {
			together := b.Wood + b.Water
			for k, other := range in {
				if other == cell {
					together += billets[k].Wood + billets[k].Water
				}
			}
			if !slices.Contains(flues, cell) && together <= room {
				first = cell
			}
		}
		in = append(in, first)
	}
	return in
}

// P6.5
func TestStacksAgainstTheChapter(t *testing.T) {
	r := rand.New(rand.NewSource(8))
	left, laid := 0, 0
	for range 3000 {
		c := empty(1+r.Intn(api.ClampWide), 1+r.Intn(api.ClampHigh))
		c.Vents = randomVents(r, c)
		room, flues, billets := r.Intn(60), randomFlues(r, len(c.Cells)), randomBillets(r, r.Intn(50), 20)
		got, in, err := clamp.Stack(c.Wide, c.High, room, flues, c.Vents, billets)
		want := stackOf(len(c.Cells), room, flues, billets)
		for k, cell := range want {
			if cell < 0 {
				left++
				continue
			}
			laid++
			c.Cells[cell].Wood += billets[k].Wood
			c.Cells[cell].Water += billets[k].Water
		}
		if err != api.OK || !slices.Equal(in, want) || !sameClamp(got, c) {
			t.Fatal(c, room, flues, billets, got, in, err, want)
		}
		checkRoom(t, got, in, room, flues, billets)
	}
	if left < 1000 || laid < 1000 {
		t.Error("so many billets were left over, and laid:", left, laid)
	}
}

// checkRoom checks that no cell has more than its room, no flue anything, and that each billet that is left over would have fitted nowhere.
func checkRoom(t *testing.T, c api.Clamp, in []int, room int, flues []int, billets []api.Billet) {
	t.Helper()
	for cell, x := range c.Cells {
		isFlue := slices.Contains(flues, cell)
		if x.Wood+x.Water > room || isFlue && (x != api.Cell{} || slices.Contains(in, cell)) || x.Char+x.Ash+x.Heat > 0 {
			t.Fatal(c, room, flues)
		}
		for k, b := range billets {
			if in[k] < 0 && !isFlue && x.Wood+x.Water+b.Wood+b.Water <= room {
				t.Fatal(c, room, flues, "has room for", b)
			}
		}
	}
}

// stacking is the arguments of Stack.
type stacking struct {
	wide, high, room int
	flues            []int
	vents            []api.Vent
	billets          []api.Billet
}

func TestStacksThatAreRefused(t *testing.T) {
	for name, change := range map[string]func(s *stacking){
		"no columns":           func(s *stacking) { s.wide = 0 },
		"too wide":             func(s *stacking) { s.wide = api.ClampWide + 1 },
		"no courses":           func(s *stacking) { s.high = 0 },
		"too high":             func(s *stacking) { s.high = api.ClampHigh + 1 },
		"less than nothing":    func(s *stacking) { s.wide, s.high = -2, -2 },
		"great numbers":        func(s *stacking) { s.wide, s.high = math.MaxInt, math.MaxInt },
		"least numbers":        func(s *stacking) { s.wide, s.high = math.MinInt, math.MinInt },
		"less than no room":    func(s *stacking) { s.room = -1 },
		"too much room":        func(s *stacking) { s.room = api.ClampMass + 1 },
		"a flue before all":    func(s *stacking) { s.flues = []int{-1} },
		"a flue behind all":    func(s *stacking) { s.flues = []int{0, 9} },
		"a flue far away":      func(s *stacking) { s.flues = []int{math.MaxInt} },
		"a vent inside":        func(s *stacking) { s.vents = []api.Vent{{Cell: 4}} },
		"a vent before all":    func(s *stacking) { s.vents = []api.Vent{{Cell: -1}} },
		"a vent behind all":    func(s *stacking) { s.vents = []api.Vent{{Cell: 9}} },
		"less than no draft":   func(s *stacking) { s.vents = []api.Vent{{Draft: -1}} },
		"too great a draft":    func(s *stacking) { s.vents = []api.Vent{{}, {Draft: 1001}} },
		"too many vents":       func(s *stacking) { s.vents = make([]api.Vent, api.ClampVents+1) },
		"less than no wood":    func(s *stacking) { s.billets = []api.Billet{{Wood: -1}} },
		"too much wood":        func(s *stacking) { s.billets = []api.Billet{{}, {Wood: 1001}} },
		"less than no water":   func(s *stacking) { s.billets = []api.Billet{{Water: -1}} },
		"too much water":       func(s *stacking) { s.billets = []api.Billet{{}, {Water: 1001}} },
		"great and less":       func(s *stacking) { s.billets = []api.Billet{{Wood: math.MaxInt, Water: math.MinInt}} },
		"wrong, but left over": func(s *stacking) { s.room, s.billets = 0, []api.Billet{{Wood: 1}, {Wood: 1001}} },
	} {
		for many, want := range map[int]api.Errno{0: api.ErrArg, api.ClampBillets + 1: api.ErrLong} {
			s := stacking{wide: 3, high: 3, room: 100}
			change(&s)
			s.billets = append(s.billets, make([]api.Billet, many)...)
			if c, in, err := clamp.Stack(s.wide, s.high, s.room, s.flues, s.vents, s.billets); err != want || !sameClamp(c, api.Clamp{}) || len(in) != 0 {
				t.Error(name, many, c, in, err)
			}
		}
	}
}

func TestStacksAtTheirLimits(t *testing.T) {
	for _, size := range []int{1, api.ClampWide} {
		cells := size * size
		vents := slices.Repeat([]api.Vent{{Cell: cells - 1, Draft: 1000}}, api.ClampVents)
		flues := slices.Repeat([]int{cells - 1, 0}, 500)
		c, in, err := clamp.Stack(size, size, api.ClampMass, flues, vents, slices.Repeat([]api.Billet{{Wood: 1000, Water: 1000}}, api.ClampBillets))
		first := 1
		if cells == 1 {
			first = -1
		}
		if err != api.OK || !slices.Equal(in, slices.Repeat([]int{first}, api.ClampBillets)) || !slices.Equal(c.Vents, vents) {
			t.Error(size, c, in, err)
		}
	}
}
