package wood_test

import (
	"math"
	"math/rand"
	"slices"
	"testing"

	"greenhew/api"
	"greenhew/wood"
)

func TestDeerOfTheChapter(t *testing.T) {
	m := read(t, example)
	d, err := wood.Deer(m, nil)
	if err != api.OK || len(d) != 12 {
		t.Fatal(d, err)
	}
	for i, come := range d {
		if come != (i != 3) {
			t.Error(i, come)
		}
	}
	inside := read(t, "wood 3 3\nr0 r0 r0\nr0 f0 r0\nr0 r0 r0\n")
	var edge []api.Side
	for _, side := range allSides(inside) {
		if side.Upright && side.X%3 == 0 || !side.Upright && side.Y%3 == 0 {
			edge = append(edge, side)
		}
	}
	if d, err := wood.Deer(inside, edge); err != api.OK || slices.Contains(d, false) {
		t.Error("deer live in the field behind a fence:", d, err)
	}
	if d, err := wood.Deer(rides(3, 3), edge); err != api.OK || slices.Contains(d, true) || len(d) != 9 {
		t.Error("a fence all around keeps all deer away:", d, err)
	}
	if d, err := wood.Deer(rides(3, 3), edge[1:]); err != api.OK || slices.Contains(d, false) {
		t.Error("a gap lets deer everywhere:", d, err)
	}
}

func TestDeerComeStepByStep(t *testing.T) {
	r := rand.New(rand.NewSource(4))
	for range 400 {
		m := randomMap(r, 1+r.Intn(7), 1+r.Intn(7))
		fence := randomFence(r, m)
		d, err := wood.Deer(m, fence)
		if err != api.OK || !slices.Equal(d, plainDeer(m, fence)) {
			t.Fatal(show(m), fence, d, err)
		}
	}
}

// plainDeer goes through the map until deer come nowhere else.
func plainDeer(m api.WoodMap, fence []api.Side) []bool {
	come := make([]bool, len(m.Cells))
	for again := true; again; {
		again = false
		for i, c := range m.Cells {
			if come[i] || c.Kind == api.CellWater {
				continue
			}
			now := c.Kind == api.CellField
			for _, d := range dirs {
				to := beyond(m, i, d)
				now = now || (to < 0 || come[to]) && !slices.Contains(fence, sideOf(m, i, d))
			}
			come[i] = now
			again = again || now
		}
	}
	return come
}

func TestPrice(t *testing.T) {
	m := read(t, example)
	for side, want := range map[api.Side]int{
		{X: 1, Y: 1, Upright: true}: 5,
		{X: 1, Y: 1}:                1,
		{X: 3, Y: 1, Upright: true}: 7,
		{X: 2, Y: 0, Upright: true}: 1,
		{X: 1, Y: 0, Upright: true}: 1,
		{X: 3, Y: 0, Upright: true}: 3,
		{X: 3, Y: 0}:                2,
		{X: 4, Y: 0, Upright: true}: 2,
		{X: 0, Y: 0}:                2,
		{X: 3, Y: 3}:                2,
		{X: 0, Y: 2, Upright: true}: 2,
	} {
		if got, err := wood.Price(m, side); err != api.OK || got != want {
			t.Error(side, got, err)
		}
	}
	for _, side := range noSides() {
		if got, err := wood.Price(m, side); err != api.ErrArg || got != 0 {
			t.Error(side, got, err)
		}
	}
}

// noSides returns sides that do not exist on the map of the chapter.
func noSides() []api.Side {
	return []api.Side{
		{X: -1, Y: 0}, {X: 4, Y: 0}, {X: 0, Y: -1}, {X: 0, Y: 4}, {X: 4, Y: 3},
		{X: -1, Y: 0, Upright: true}, {X: 5, Y: 0, Upright: true}, {X: 0, Y: -1, Upright: true}, {X: 0, Y: 3, Upright: true}, {X: 4, Y: 3, Upright: true},
		{X: math.MaxInt, Y: math.MinInt}, {X: math.MinInt, Y: math.MaxInt, Upright: true},
	}
}

func TestFenceOfTheChapter(t *testing.T) {
	m := read(t, example)
	want := []api.Side{{X: 3, Y: 1, Upright: true}, {X: 4, Y: 1, Upright: true}, {X: 3, Y: 2, Upright: true}, {X: 4, Y: 2, Upright: true}, {X: 3, Y: 3}}
	fence, price, err := wood.Fence(m, nil, 2)
	if err != api.OK || price != 16 || !slices.Equal(fence, want) {
		t.Error(fence, price, err)
	}
	rest, price, err := wood.Fence(m, want[:2], 2)
	if err != api.OK || price != 7 || !slices.Equal(rest, want[2:]) {
		t.Error("what is fenced already is not fenced again:", rest, price, err)
	}
	if none, price, err := wood.Fence(m, want, 2); err != api.OK || price != 0 || len(none) != 0 {
		t.Error("no fence is left to build:", none, price, err)
	}
	island := read(t, "wood 3 3\nf0 w f0\nw 1:0:0 w\nf0 w f0\n")
	if none, price, err := wood.Fence(island, nil, 1); err != api.OK || price != 0 || len(none) != 0 {
		t.Error("water is fence enough:", none, price, err)
	}
}

func TestFenceTakesTheLeastOfTheBestRefuges(t *testing.T) {
	// Around the ride, the fence has as much price as around the wood alone.
	m := read(t, "wood 5 1\nw 1:0:0 r0 r0 w\n")
	water := []api.Side{{X: 1, Y: 0}, {X: 2, Y: 0}, {X: 3, Y: 0}, {X: 1, Y: 1}, {X: 2, Y: 1}, {X: 3, Y: 1}}
	fence, price, err := wood.Fence(m, water, 1)
	if err != api.OK || price != 0 || len(fence) != 0 {
		t.Error(fence, price, err)
	}
	fence, price, err = wood.Fence(m, append(slices.Clone(water[:2]), water[3:5]...), 1)
	if err != api.OK || price != 2 || !slices.Equal(fence, []api.Side{{X: 2, Y: 0, Upright: true}}) {
		t.Error(fence, price, err)
	}
	// The bank makes the farther fence a cheaper one.
	far := read(t, "wood 5 1\nw 1:9:0 r9 b0 f0\n")
	fence, price, err = wood.Fence(far, []api.Side{{X: 1, Y: 0}, {X: 2, Y: 0}, {X: 3, Y: 0}, {X: 1, Y: 1}, {X: 2, Y: 1}, {X: 3, Y: 1}}, 1)
	if err != api.OK || price != 1 || !slices.Equal(fence, []api.Side{{X: 3, Y: 0, Upright: true}}) {
		t.Error(fence, price, err)
	}
}

// mayBeIn returns the cells that a refuge of compartments may have beside theirs.
func mayBeIn(m api.WoodMap, comps []int) []int {
	var l []int
	for i, c := range m.Cells {
		if c.Kind != api.CellWater && c.Kind != api.CellField && !slices.Contains(comps, c.Comp) {
			l = append(l, i)
		}
	}
	return l
}

// plainFence returns the fence of a refuge, and its price.
func plainFence(m api.WoodMap, fence []api.Side, refuge []bool) ([]api.Side, int) {
	var l []api.Side
	price := 0
	for _, side := range allSides(m) {
		if slices.Contains(fence, side) {
			continue
		}
		for i, in := range refuge {
			for _, d := range dirs {
				to := beyond(m, i, d)
				if in && sideOf(m, i, d) == side && (to < 0 || !refuge[to] && m.Cells[to].Kind != api.CellWater) {
					one, _ := wood.Price(m, side)
					price += one
					l = append(l, side)
				}
			}
		}
	}
	return l, price
}

// plainBest goes through all refuges. It returns the one that has the least price and the fewest cells, its price, and whether all others of this price contain it.
func plainBest(m api.WoodMap, fence []api.Side, comps []int) ([]bool, int, bool) {
	free := mayBeIn(m, comps)
	var best [][]bool
	least := math.MaxInt
	for set := range 1 << len(free) {
		refuge := make([]bool, len(m.Cells))
		for i, c := range m.Cells {
			refuge[i] = slices.Contains(comps, c.Comp)
		}
		for k, i := range free {
			refuge[i] = set>>k&1 == 1
		}
		_, price := plainFence(m, fence, refuge)
		if price < least {
			least, best = price, nil
		}
		if price == least {
			best = append(best, refuge)
		}
	}
	first := slices.MinFunc(best, func(a, b []bool) int { return size(a) - size(b) })
	for _, other := range best {
		for i, in := range first {
			if in && !other[i] {
				return nil, 0, false
			}
		}
	}
	return first, least, true
}

func size(refuge []bool) int {
	n := 0
	for _, in := range refuge {
		if in {
			n++
		}
	}
	return n
}

func TestFenceIsTheBest(t *testing.T) {
	r := rand.New(rand.NewSource(5))
	for range 300 {
		m := randomMap(r, 1+r.Intn(4), 1+r.Intn(4))
		var fence []api.Side
		if r.Intn(2) == 0 {
			fence = randomFence(r, m)
		}
		l := someComps(r, m)
		if len(mayBeIn(m, l)) > 7 {
			continue
		}
		refuge, least, ok := plainBest(m, fence, l)
		want, _ := plainFence(m, fence, refuge)
		got, price, err := wood.Fence(m, fence, l...)
		if err != api.OK || !ok || price != least || !slices.Equal(got, want) {
			t.Fatal(show(m), fence, l, got, price, err, want, least)
		}
		keepsAway(t, m, joined(fence, got), l)
	}
}

func keepsAway(t *testing.T, m api.WoodMap, fence []api.Side, comps []int) {
	t.Helper()
	d, err := wood.Deer(m, fence)
	if err != api.OK {
		t.Fatal(show(m), fence, err)
	}
	for i, come := range d {
		if come && slices.Contains(comps, m.Cells[i].Comp) {
			t.Fatal(show(m), fence, comps, i)
		}
	}
}

func TestNoFenceAtAllIsCheaper(t *testing.T) {
	r := rand.New(rand.NewSource(6))
	for range 40 {
		m := randomMap(r, 1+r.Intn(2), 1+r.Intn(2))
		l := someComps(r, m)
		_, price, _ := wood.Fence(m, nil, l...)
		all := allSides(m)
		for set := range 1 << len(all) {
			var fence []api.Side
			sum := 0
			for k, side := range all {
				if set>>k&1 == 1 {
					one, _ := wood.Price(m, side)
					sum += one
					fence = append(fence, side)
				}
			}
			if sum < price && !slices.ContainsFunc(l, func(comp int) bool { return visited(m, fence, comp) }) {
				t.Fatal(show(m), l, price, fence, sum)
			}
		}
	}
}

func visited(m api.WoodMap, fence []api.Side, comp int) bool {
	d, _ := wood.Deer(m, fence)
	for i, come := range d {
		if come && m.Cells[i].Comp == comp {
			return true
		}
	}
	return false
}

func TestFenceOnLargeMaps(t *testing.T) {
	r := rand.New(rand.NewSource(7))
	for range 10 {
		m := randomMap(r, 40, 40)
		l := someComps(r, m)
		fence, price, err := wood.Fence(m, nil, l...)
		ways, f := wood.Ways(m, nil, l...)
		if err != api.OK || f != api.OK || len(ways) > api.WoodWays {
			t.Fatal(err, f, len(ways))
		}
		if n, ok := wood.Proves(m, nil, l, ways); !ok || n != price {
			t.Fatal(n, ok, price)
		}
		keepsAway(t, m, fence, l)
	}
}

func TestFencesThatAreNone(t *testing.T) {
	m := read(t, example)
	level, upright := api.Side{X: 1, Y: 1}, api.Side{X: 1, Y: 1, Upright: true}
	bad := [][]api.Side{
		{level, level},
		{upright, level},
		{{X: 2, Y: 1}, upright},
		{{X: 0, Y: 2}, {X: 3, Y: 1}},
	}
	for _, side := range noSides() {
		bad = append(bad, []api.Side{side})
	}
	for _, fence := range bad {
		d, e1 := wood.Deer(m, fence)
		f, price, e2 := wood.Fence(m, fence, 1)
		ways, e3 := wood.Ways(m, fence, 1)
		n, ok := wood.Proves(m, fence, []int{1}, nil)
		if e1 != api.ErrArg || e2 != api.ErrArg || e3 != api.ErrArg || ok || len(d)+len(f)+price+len(ways)+n != 0 {
			t.Error(fence, e1, e2, e3, ok)
		}
	}
	for _, fence := range [][]api.Side{{level, upright}, {upright, {X: 2, Y: 1}}, {{X: 3, Y: 1}, {X: 0, Y: 2}}, allSides(m)} {
		if _, err := wood.Deer(m, fence); err != api.OK {
			t.Error(fence, err)
		}
	}
}

func TestCompartmentsThatAreNone(t *testing.T) {
	m := read(t, example)
	for _, l := range [][]int{nil, {0}, {-1}, {3}, {1, 1}, {2, 1}, {1, 2, 3}, {math.MinInt}} {
		f, price, e1 := wood.Fence(m, nil, l...)
		ways, e2 := wood.Ways(m, nil, l...)
		n, ok := wood.Proves(m, nil, l, nil)
		if e1 != api.ErrArg || e2 != api.ErrArg || ok || len(f)+price+len(ways)+n != 0 {
			t.Error(l, e1, e2, ok)
		}
	}
	if _, _, err := wood.Fence(m, nil, 1, 2); err != api.OK {
		t.Error(err)
	}
}

func TestWaysProveThePrice(t *testing.T) {
	r := rand.New(rand.NewSource(8))
	for range 400 {
		m := randomMap(r, 1+r.Intn(9), 1+r.Intn(9))
		var fence []api.Side
		if r.Intn(2) == 0 {
			fence = randomFence(r, m)
		}
		l := someComps(r, m)
		_, price, _ := wood.Fence(m, fence, l...)
		ways, err := wood.Ways(m, fence, l...)
		if n, ok := wood.Proves(m, fence, l, ways); err != api.OK || !ok || n != price || len(ways) > api.WoodWays {
			t.Fatal(show(m), fence, l, ways, err, n, ok, price)
		}
		again, _ := wood.Ways(m, fence, l...)
		if !slices.EqualFunc(ways, again, sameWay) {
			t.Fatal(show(m), fence, l, ways, again)
		}
		if len(ways) > 0 {
			ways[r.Intn(len(ways))].Many++
			if n, ok := wood.Proves(m, fence, l, ways); ok || n != 0 {
				t.Fatal(show(m), fence, l, ways, n, ok)
			}
		}
	}
}

func sameWay(a, b api.DeerWay) bool {
	return a.Over == b.Over && a.Many == b.Many && slices.Equal(a.Cells, b.Cells)
}

func TestProves(t *testing.T) {
	m := read(t, example)
	east := api.Side{X: 4, Y: 1, Upright: true}
	south := api.Side{X: 1, Y: 3}
	fenced := []api.Side{{X: 1, Y: 1, Upright: true}, east}
	twice := []api.DeerWay{{Cells: []int{4, 5}, Many: 2}, {Cells: []int{0, 4, 5}, Many: 2}}
	for name, c := range map[string]struct {
		fence []api.Side
		comps []int
		ways  []api.DeerWay
		want  int
		ok    bool
	}{
		"none":                         {nil, []int{2}, nil, 0, true},
		"over the edge":                {nil, []int{2}, []api.DeerWay{{Over: east, Cells: []int{7}, Many: 2}}, 2, true},
		"more than the price":          {nil, []int{2}, []api.DeerWay{{Over: east, Cells: []int{7}, Many: 3}}, 0, false},
		"as many as an integer can":    {nil, []int{2}, []api.DeerWay{{Over: east, Cells: []int{7}, Many: math.MaxInt}, {Over: east, Cells: []int{7}, Many: math.MaxInt}}, 0, false},
		"one, then as many":            {nil, []int{2}, []api.DeerWay{{Over: east, Cells: []int{7}, Many: 1}, {Over: east, Cells: []int{7}, Many: math.MaxInt}}, 0, false},
		"out of a field":               {nil, []int{1}, []api.DeerWay{{Cells: []int{4, 5}, Many: 5}}, 5, true},
		"out of a field, too many":     {nil, []int{1}, []api.DeerWay{{Cells: []int{4, 5}, Many: 6}}, 0, false},
		"two over a side":              {nil, []int{1}, slices.Concat(twice, []api.DeerWay{{Cells: []int{4, 5}, Many: 1}}), 5, true},
		"two over a side, too many":    {nil, []int{1}, slices.Concat(twice, []api.DeerWay{{Cells: []int{4, 5}, Many: 2}}), 0, false},
		"there and back over a side":   {nil, []int{1, 2}, []api.DeerWay{{Over: east, Cells: []int{7, 6}, Many: 2}, {Cells: []int{4, 5, 6, 7}, Many: 5}}, 7, true},
		"there and back, too many":     {nil, []int{1, 2}, []api.DeerWay{{Cells: []int{4, 5, 6, 7}, Many: 5}, {Over: south, Cells: []int{9, 10, 6, 7}, Many: 2}, {Over: api.Side{X: 3, Y: 3}, Cells: []int{11, 7, 6}, Many: 1}}, 0, false},
		"through other compartments":   {nil, []int{2}, []api.DeerWay{{Cells: []int{8, 9, 10, 11}, Many: 2}}, 2, true},
		"through a compartment of it":  {nil, []int{1}, []api.DeerWay{{Cells: []int{4, 5, 6}, Many: 1}}, 1, true},
		"out of a field, over a side":  {nil, []int{1}, []api.DeerWay{{Over: api.Side{X: 0, Y: 1, Upright: true}, Cells: []int{4, 5}, Many: 1}}, 0, false},
		"no side over which they come": {nil, []int{2}, []api.DeerWay{{Cells: []int{7}, Many: 1}}, 0, false},
		"over another cell's side":     {nil, []int{2}, []api.DeerWay{{Over: south, Cells: []int{11}, Many: 1}}, 0, false},
		"over a side in the map":       {nil, []int{2}, []api.DeerWay{{Over: api.Side{X: 3, Y: 1, Upright: true}, Cells: []int{7}, Many: 1}}, 0, false},
		"over a side that is none":     {nil, []int{2}, []api.DeerWay{{Over: api.Side{X: 5, Y: 1, Upright: true}, Cells: []int{7}, Many: 1}}, 0, false},
		"over a fence at the edge":     {fenced, []int{2}, []api.DeerWay{{Over: east, Cells: []int{7}, Many: 1}}, 0, false},
		"over a fence in the map":      {fenced, []int{1}, []api.DeerWay{{Cells: []int{4, 5}, Many: 1}}, 0, false},
		"beside a fence":               {fenced, []int{1}, []api.DeerWay{{Cells: []int{8, 9}, Many: 5}}, 5, true},
		"no cells":                     {nil, []int{2}, []api.DeerWay{{Over: east, Many: 1}}, 0, false},
		"no deer":                      {nil, []int{2}, []api.DeerWay{{Over: east, Cells: []int{7}}}, 0, false},
		"fewer than no deer":           {nil, []int{2}, []api.DeerWay{{Over: east, Cells: []int{7}, Many: -1}}, 0, false},
		"a cell twice":                 {nil, []int{1}, []api.DeerWay{{Cells: []int{4, 5, 4, 5}, Many: 1}}, 0, false},
		"the same cell twice":          {nil, []int{2}, []api.DeerWay{{Over: east, Cells: []int{7, 7}, Many: 1}}, 0, false},
		"through water":                {nil, []int{2}, []api.DeerWay{{Over: api.Side{X: 3, Y: 0}, Cells: []int{3, 7}, Many: 1}}, 0, false},
		"a leap":                       {nil, []int{2}, []api.DeerWay{{Cells: []int{4, 6, 7}, Many: 1}}, 0, false},
		"a leap over a corner":         {nil, []int{1}, []api.DeerWay{{Cells: []int{4, 9}, Many: 1}}, 0, false},
		"from one row to the next":     {nil, []int{2}, []api.DeerWay{{Cells: []int{8, 7}, Many: 1}}, 0, false},
		"to another compartment":       {nil, []int{2}, []api.DeerWay{{Cells: []int{4, 5}, Many: 1}}, 0, false},
		"to a field":                   {nil, []int{2}, []api.DeerWay{{Cells: []int{4}, Many: 1}}, 0, false},
		"a cell -1":                    {nil, []int{2}, []api.DeerWay{{Cells: []int{-1}, Many: 1}}, 0, false},
		"a cell 12":                    {nil, []int{2}, []api.DeerWay{{Over: east, Cells: []int{7, 12, 11}, Many: 1}}, 0, false},
		"a huge cell":                  {nil, []int{2}, []api.DeerWay{{Over: east, Cells: []int{math.MaxInt, math.MinInt}, Many: 1}}, 0, false},
	} {
		if n, ok := wood.Proves(m, c.fence, c.comps, c.ways); ok != c.ok || n != c.want {
			t.Error(name, n, ok)
		}
	}
}

func TestProvesOverTheFirstSide(t *testing.T) {
	m := read(t, "wood 1 1\n1:0:0\n")
	if n, ok := wood.Proves(m, nil, []int{1}, []api.DeerWay{{Cells: []int{0}, Many: 2}}); !ok || n != 2 {
		t.Error("the zero value is a side, too:", n, ok)
	}
	first := []api.DeerWay{{Cells: []int{0}, Many: 2}, {Over: api.Side{Upright: true}, Cells: []int{0}, Many: 2}, {Over: api.Side{X: 1, Upright: true}, Cells: []int{0}, Many: 2}, {Over: api.Side{Y: 1}, Cells: []int{0}, Many: 2}}
	if n, ok := wood.Proves(m, nil, []int{1}, first); !ok || n != 8 {
		t.Error(n, ok)
	}
	if n, ok := wood.Proves(m, nil, []int{1}, append(first, first[0])); ok || n != 0 {
		t.Error(n, ok)
	}
}

func TestProvesTakesSoManyWays(t *testing.T) {
	m := rides(40, 40)
	for i := range m.Cells {
		m.Cells[i] = api.WoodCell{Kind: api.CellField}
		if i/40%2 == 0 || i%40 == 0 {
			m.Cells[i] = api.WoodCell{Kind: api.CellWood, Comp: 1, Soft: 9}
		}
	}
	var ways []api.DeerWay
	for i, c := range m.Cells {
		for _, d := range dirs {
			to := beyond(m, i, d)
			for range 11 {
				if c.Kind == api.CellField && to >= 0 && m.Cells[to].Comp == 1 {
					ways = append(ways, api.DeerWay{Cells: []int{i, to}, Many: 1})
				}
			}
		}
	}
	if len(ways) <= api.WoodWays {
		t.Fatal(len(ways))
	}
	if n, ok := wood.Proves(m, nil, []int{1}, ways[:api.WoodWays]); !ok || n != api.WoodWays {
		t.Error(n, ok)
	}
	if n, ok := wood.Proves(m, nil, []int{1}, ways[:api.WoodWays+1]); ok || n != 0 {
		t.Error(n, ok)
	}
	best, err := wood.Ways(m, nil, 1)
	_, price, _ := wood.Fence(m, nil, 1)
	if n, ok := wood.Proves(m, nil, []int{1}, best); err != api.OK || !ok || n != price || len(best) > api.WoodWays {
		t.Error(n, ok, price, err, len(best))
	}
}
