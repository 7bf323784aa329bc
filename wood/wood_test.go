package wood_test

import (
	"math"
	"math/rand"
	"slices"
	"strings"
	"testing"

	"greenhew/api"
	"greenhew/wood"
)

func TestCheckTakesMaps(t *testing.T) {
	wide := api.WoodMap{Width: 40, Height: 40, Cells: slices.Repeat([]api.WoodCell{{Kind: api.CellWood, Comp: 1, Soft: 9, Stools: 20}}, 1600)}
	for i := range 60 {
		wide.Standards = append(wide.Standards, api.Standard{At: 1599 - i, Crown: 8, Dense: 100})
	}
	maps := []api.WoodMap{
		read(t, example),
		wide,
		{Width: 1, Height: 1, Cells: []api.WoodCell{{Kind: api.CellWater}}},
		{Width: 1, Height: 1, Cells: []api.WoodCell{{Kind: api.CellField}}, Standards: []api.Standard{{Dense: 1}}},
		read(t, "wood 20 1\n20:0:0"+tail(19)+"\n"),
	}
	for i, m := range maps {
		if e := wood.Check(m); e != api.OK {
			t.Error(i, e)
		}
	}
}

// tail returns compartments of a cell, from a number down to the first one.
func tail(n int) string {
	text := ""
	for ; n > 0; n-- {
		text += " " + string(rune('0'+n/10)) + string(rune('0'+n%10)) + ":0:0"
	}
	return strings.ReplaceAll(text, " 0", " ")
}

func TestCheckRefusesWhatIsNoMap(t *testing.T) {
	good := read(t, example)
	for name, spoil := range map[string]func(m *api.WoodMap){
		"no width":           func(m *api.WoodMap) { m.Width, m.Cells = 0, nil },
		"no height":          func(m *api.WoodMap) { m.Height, m.Cells = 0, nil },
		"negative size":      func(m *api.WoodMap) { m.Width, m.Height = -4, -3 },
		"too wide":           func(m *api.WoodMap) { *m = rides(41, 1) },
		"too high":           func(m *api.WoodMap) { *m = rides(1, 41) },
		"huge size":          func(m *api.WoodMap) { m.Width, m.Height, m.Cells = math.MinInt, 2, nil },
		"a cell less":        func(m *api.WoodMap) { m.Cells = m.Cells[:11] },
		"a cell more":        func(m *api.WoodMap) { m.Cells = append(m.Cells, api.WoodCell{Kind: api.CellRide}) },
		"kind 0":             func(m *api.WoodMap) { m.Cells[0].Kind = 0 },
		"kind 6":             func(m *api.WoodMap) { m.Cells[0].Kind = 6 },
		"kind -1":            func(m *api.WoodMap) { m.Cells[0].Kind = -1 },
		"soft -1":            func(m *api.WoodMap) { m.Cells[0].Soft = -1 },
		"soft 10":            func(m *api.WoodMap) { m.Cells[0].Soft = 10 },
		"soft wood 10":       func(m *api.WoodMap) { m.Cells[5].Soft = 10 },
		"soft water":         func(m *api.WoodMap) { m.Cells[3].Soft = 1 },
		"wood without comp":  func(m *api.WoodMap) { m.Cells[5].Comp = 0 },
		"comp -1":            func(m *api.WoodMap) { m.Cells[5].Comp = -1 },
		"stools -1":          func(m *api.WoodMap) { m.Cells[5].Stools = -1 },
		"stools 21":          func(m *api.WoodMap) { m.Cells[5].Stools = 21 },
		"ride of a comp":     func(m *api.WoodMap) { m.Cells[2].Comp = 1 },
		"bank of a comp":     func(m *api.WoodMap) { m.Cells[1].Comp = 1 },
		"water of a comp":    func(m *api.WoodMap) { m.Cells[3].Comp = 2 },
		"field of a comp":    func(m *api.WoodMap) { m.Cells[4].Comp = 1 },
		"ride with stools":   func(m *api.WoodMap) { m.Cells[2].Stools = 1 },
		"water with stools":  func(m *api.WoodMap) { m.Cells[3].Stools = 1 },
		"gap of comps":       func(m *api.WoodMap) { m.Cells[7].Comp, m.Cells[11].Comp = 3, 3 },
		"no first comp":      func(m *api.WoodMap) { *m = rides(2, 1); m.Cells[0] = api.WoodCell{Kind: api.CellWood, Comp: 2} },
		"comp in two pieces": func(m *api.WoodMap) { m.Cells[0] = api.WoodCell{Kind: api.CellWood, Comp: 2} },
		"comp over a corner": func(m *api.WoodMap) { m.Cells[5].Comp, m.Cells[9].Comp = 2, 1 },
		"comp 21":            func(m *api.WoodMap) { *m = twentyOne() },
		"standard at -1":     func(m *api.WoodMap) { m.Standards[0].At = -1 },
		"standard at 12":     func(m *api.WoodMap) { m.Standards[0].At = 12 },
		"standard in water":  func(m *api.WoodMap) { m.Standards[0].At = 3 },
		"standards at one":   func(m *api.WoodMap) { m.Standards = append(m.Standards, api.Standard{At: 5, Dense: 1}) },
		"crown -1":           func(m *api.WoodMap) { m.Standards[0].Crown = -1 },
		"crown 9":            func(m *api.WoodMap) { m.Standards[0].Crown = 9 },
		"dense 0":            func(m *api.WoodMap) { m.Standards[0].Dense = 0 },
		"dense 101":          func(m *api.WoodMap) { m.Standards[0].Dense = 101 },
		"61 standards":       func(m *api.WoodMap) { *m = crowded(61) },
	} {
		m := clone(good)
		spoil(&m)
		if e := wood.Check(m); e != api.ErrArg {
			t.Errorf("%s: %d", name, e)
		}
		refuseAll(t, name, m)
	}
}

// refuseAll checks that no function takes a map, and that their other results are zero values.
func refuseAll(t *testing.T, name string, m api.WoodMap) {
	t.Helper()
	a, e1 := wood.Cells(m, 1)
	b, e2 := wood.Borders(m, 1)
	c, e3 := wood.Bounds(m, 1)
	d, e4 := wood.Light(m, 0)
	f, e5 := wood.LightOf(m, 1)
	g, e6 := wood.Deer(m, nil)
	h, e7 := wood.Price(m, api.Side{})
	i, j, e8 := wood.Fence(m, nil, 1)
	k, e9 := wood.Ways(m, nil, 1)
	n, is := wood.Proves(m, nil, []int{1}, nil)
	o, p, e10 := wood.Horse(m, 0, 0, 1, 0)
	q, e11 := wood.Efforts(m, 0, 1, 0)
	r, e12 := wood.Greatest(m, 0, 0, 0)
	s, e13 := wood.Print(m)
	for _, e := range []api.Errno{e1, e2, e3, e4, e5, e6, e7, e8, e9, e10, e11, e12, e13} {
		if e != api.ErrArg {
			t.Errorf("%s: errors %v", name, []api.Errno{e1, e2, e3, e4, e5, e6, e7, e8, e9, e10, e11, e12, e13})
			break
		}
	}
	if len(a)+len(b)+len(c)+d+f+len(g)+h+len(i)+j+len(k)+n+len(o)+p+len(q)+r+len(s) != 0 || is {
		t.Errorf("%s: a result beside an error", name)
	}
}

func rides(width, height int) api.WoodMap {
	return api.WoodMap{Width: width, Height: height, Cells: slices.Repeat([]api.WoodCell{{Kind: api.CellRide}}, width*height)}
}

func twentyOne() api.WoodMap {
	m := rides(21, 1)
	for i := range m.Cells {
		m.Cells[i] = api.WoodCell{Kind: api.CellWood, Comp: i + 1}
	}
	return m
}

func crowded(standards int) api.WoodMap {
	m := rides(40, 2)
	for i := range standards {
		m.Standards = append(m.Standards, api.Standard{At: i, Dense: 1})
	}
	return m
}

func TestCellsAndBorders(t *testing.T) {
	m := read(t, example)
	if l, e := wood.Cells(m, 1); e != api.OK || !slices.Equal(l, []int{5, 6, 9}) {
		t.Error(l, e)
	}
	if l, e := wood.Borders(m, 1); e != api.OK || !slices.Equal(l, []api.Border{{Comp: 2, Sides: 1}}) {
		t.Error(l, e)
	}
	for _, comp := range []int{0, -1, 3, math.MaxInt, math.MinInt} {
		l, e := wood.Cells(m, comp)
		b, f := wood.Borders(m, comp)
		if e != api.ErrArg || f != api.ErrArg || len(l)+len(b) != 0 {
			t.Error(comp, l, e, b, f)
		}
	}
	m = read(t, "wood 3 2\n3:0:0 2:0:0 2:0:0\n3:0:0 1:0:0 2:0:0\n")
	if l, e := wood.Borders(m, 2); e != api.OK || !slices.Equal(l, []api.Border{{Comp: 1, Sides: 2}, {Comp: 3, Sides: 1}}) {
		t.Error(l, e)
	}
	alone := read(t, "wood 2 1\n1:0:0 r0\n")
	if l, e := wood.Borders(alone, 1); e != api.OK || len(l) != 0 {
		t.Error(l, e)
	}
}

func TestBordersAreShared(t *testing.T) {
	r := rand.New(rand.NewSource(1))
	for range 300 {
		m := randomMap(r, 1+r.Intn(7), 1+r.Intn(7))
		for a := 1; a <= comps(m); a++ {
			l, e := wood.Borders(m, a)
			var want []api.Border
			for b := 1; b <= comps(m); b++ {
				if n := shared(m, a, b); b != a && n > 0 {
					want = append(want, api.Border{Comp: b, Sides: n})
				}
			}
			if e != api.OK || !slices.Equal(l, want) {
				t.Fatal(show(m), a, l, want)
			}
			for _, b := range l {
				if other, _ := wood.Borders(m, b.Comp); !slices.Contains(other, api.Border{Comp: a, Sides: b.Sides}) {
					t.Fatal(show(m), a, b, other)
				}
			}
		}
	}
}

// shared counts the sides that have a cell of one compartment on one hand, and of the other on the other hand.
func shared(m api.WoodMap, a, b int) int {
	n := 0
	for i, c := range m.Cells {
		for _, d := range dirs {
			if to := beyond(m, i, d); c.Comp == a && to >= 0 && m.Cells[to].Comp == b {
				n++
			}
		}
	}
	return n
}
