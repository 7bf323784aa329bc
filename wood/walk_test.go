package wood_test

import (
	"math"
	"math/rand"
	"slices"
	"testing"

	"greenhew/api"
	"greenhew/wood"
)

// walk returns a walk from a corner; of each two numbers, the first one is a direction and the second one so many sides.
func walk(x, y int, stretches ...int) api.Walk {
	w := api.Walk{From: api.Point{X: x, Y: y}}
	for i := 0; i < len(stretches); i += 2 {
		w.Stretches = append(w.Stretches, api.Stretch{Dir: api.Dir(stretches[i]), Sides: stretches[i+1]})
	}
	return w
}

const (
	e = int(api.East)
	s = int(api.South)
	w = int(api.West)
	n = int(api.North)
)

func sameWalks(a, b []api.Walk) bool {
	return slices.EqualFunc(a, b, func(a, b api.Walk) bool {
		return a.From == b.From && slices.Equal(a.Stretches, b.Stretches)
	})
}

func TestBounds(t *testing.T) {
	for name, c := range map[string]struct {
		sheet string
		want  []api.Walk
	}{
		"the chapter's": {example, []api.Walk{walk(1, 1, e, 2, s, 1, w, 1, s, 1, w, 1, n, 2)}},
		"all the map":   {"wood 2 1\n1:0:0 1:0:0\n", []api.Walk{walk(0, 0, e, 2, s, 1, w, 2, n, 1)}},
		"a ring": {"wood 3 3\n1:0:0 1:0:0 1:0:0\n1:0:0 r0 1:0:0\n1:0:0 1:0:0 1:0:0\n",
			[]api.Walk{walk(0, 0, e, 3, s, 3, w, 3, n, 3), walk(1, 2, e, 1, n, 1, w, 1, s, 1)}},
		"two holes that touch at a corner are walked around together": {
			"wood 4 4\n1:0:0 1:0:0 1:0:0 1:0:0\n1:0:0 1:0:0 r0 1:0:0\n1:0:0 r0 1:0:0 1:0:0\n1:0:0 1:0:0 1:0:0 1:0:0\n",
			[]api.Walk{walk(0, 0, e, 4, s, 4, w, 4, n, 4), walk(2, 2, e, 1, n, 1, w, 1, s, 1, w, 1, s, 1, e, 1, n, 1)}},
		"two holes that touch at the other corner": {
			"wood 4 4\n1:0:0 1:0:0 1:0:0 1:0:0\n1:0:0 r0 1:0:0 1:0:0\n1:0:0 1:0:0 r0 1:0:0\n1:0:0 1:0:0 1:0:0 1:0:0\n",
			[]api.Walk{walk(0, 0, e, 4, s, 4, w, 4, n, 4), walk(1, 2, e, 1, s, 1, e, 1, n, 1, w, 1, n, 1, w, 1, s, 1)}},
		"a hole that touches the outside at a corner": {
			"wood 3 3\nr0 1:0:0 1:0:0\n1:0:0 r0 1:0:0\n1:0:0 1:0:0 1:0:0\n",
			[]api.Walk{walk(1, 0, e, 2, s, 3, w, 3, n, 2, e, 1, s, 1, e, 1, n, 1, w, 1, n, 1)}},
		"two holes next to each other in a row": {
			"wood 5 3\n1:0:0 1:0:0 1:0:0 1:0:0 1:0:0\n1:0:0 r0 1:0:0 r0 1:0:0\n1:0:0 1:0:0 1:0:0 1:0:0 1:0:0\n",
			[]api.Walk{walk(0, 0, e, 5, s, 3, w, 5, n, 3), walk(1, 2, e, 1, n, 1, w, 1, s, 1), walk(3, 2, e, 1, n, 1, w, 1, s, 1)}},
	} {
		if l, err := wood.Bounds(read(t, c.sheet), 1); err != api.OK || !sameWalks(l, c.want) {
			t.Error(name, l, err)
		}
	}
	for _, comp := range []int{0, 3, -1, math.MaxInt} {
		if l, err := wood.Bounds(read(t, example), comp); err != api.ErrArg || len(l) != 0 {
			t.Error(comp, l, err)
		}
	}
}

func TestBoundsEncloseTheirCompartment(t *testing.T) {
	r := rand.New(rand.NewSource(2))
	for range 500 {
		m := randomMap(r, 1+r.Intn(9), 1+r.Intn(9))
		for comp := 1; comp <= comps(m); comp++ {
			walks, err := wood.Bounds(m, comp)
			cells, _ := wood.Cells(m, comp)
			if in, f := wood.Enclosed(m.Width, m.Height, walks); err != api.OK || f != api.OK || !slices.Equal(in, cells) {
				t.Fatal(show(m), comp, walks, in, cells)
			}
			checkSides(t, m.Width, m.Height, walks, cells)
			checkForm(t, walks)
			checkTurns(t, m, comp, walks)
		}
	}
}

// checkSides checks that walks go along exactly the sides between cells and something else, once, with the cells on the right hand.
func checkSides(t *testing.T, width, height int, walks []api.Walk, cells []int) {
	t.Helper()
	sheet := rides(width, height)
	want := map[api.Side]api.Dir{}
	turn := map[api.Dir]api.Dir{api.North: api.East, api.East: api.South, api.South: api.West, api.West: api.North}
	for _, i := range cells {
		for _, d := range dirs {
			if to := beyond(sheet, i, d); to < 0 || !slices.Contains(cells, to) {
				want[sideOf(sheet, i, d)] = turn[d]
			}
		}
	}
	got := 0
	for _, w := range walks {
		at := w.From
		for _, s := range w.Stretches {
			for range s.Sides {
				side, to := stepFrom(at, s.Dir)
				if want[side] != s.Dir {
					t.Fatal(walks, cells, side)
				}
				at = to
				got++
			}
		}
	}
	if got != len(want) {
		t.Fatal(walks, cells, got, len(want))
	}
}

func stepFrom(at api.Point, d api.Dir) (api.Side, api.Point) {
	switch d {
	case api.East:
		return api.Side{X: at.X, Y: at.Y}, api.Point{X: at.X + 1, Y: at.Y}
	case api.South:
		return api.Side{X: at.X, Y: at.Y, Upright: true}, api.Point{X: at.X, Y: at.Y + 1}
	case api.West:
		return api.Side{X: at.X - 1, Y: at.Y}, api.Point{X: at.X - 1, Y: at.Y}
	}
	return api.Side{X: at.X, Y: at.Y - 1, Upright: true}, api.Point{X: at.X, Y: at.Y - 1}
}

// checkForm checks that stretches are as long as possible, and where walks begin, end and stand in the list.
func checkForm(t *testing.T, walks []api.Walk) {
	t.Helper()
	for i, w := range walks {
		at, last := w.From, w.Stretches[len(w.Stretches)-1].Dir
		for k, s := range w.Stretches {
			if s.Dir == last || k == 0 && s.Dir != api.East {
				t.Fatal(walks)
			}
			if s.Dir == api.East && (at.Y < w.From.Y || at.Y == w.From.Y && at.X < w.From.X) {
				t.Fatal(walks)
			}
			for range s.Sides {
				_, at = stepFrom(at, s.Dir)
			}
			last = s.Dir
		}
		if at != w.From {
			t.Fatal(walks)
		}
		if i > 0 && (walks[i-1].From.Y > at.Y || walks[i-1].From.Y == at.Y && walks[i-1].From.X >= at.X) {
			t.Fatal(walks)
		}
	}
}

// checkTurns checks that walks turn right at corners at which they could go on in two ways: around the cell that they have on the right hand.
func checkTurns(t *testing.T, m api.WoodMap, comp int, walks []api.Walk) {
	t.Helper()
	in := func(x, y int) bool {
		return x >= 0 && y >= 0 && x < m.Width && y < m.Height && m.Cells[y*m.Width+x].Comp == comp
	}
	for _, w := range walks {
		at := w.From
		for k, s := range w.Stretches {
			for range s.Sides {
				_, at = stepFrom(at, s.Dir)
			}
			cross := in(at.X, at.Y) == in(at.X-1, at.Y-1) && in(at.X-1, at.Y) == in(at.X, at.Y-1) && in(at.X, at.Y) != in(at.X-1, at.Y)
			next := w.Stretches[(k+1)%len(w.Stretches)].Dir
			if cross && next != s.Dir%4+1 {
				t.Fatal(show(m), comp, walks, at)
			}
		}
	}
}

func TestEnclosed(t *testing.T) {
	around := walk(0, 0, e, 3, s, 3, w, 3, n, 3)
	for name, c := range map[string]struct {
		walks []api.Walk
		want  []int
	}{
		"none":                {nil, nil},
		"without stretches":   {[]api.Walk{walk(3, 3)}, nil},
		"a cell":              {[]api.Walk{walk(2, 2, e, 1, s, 1, w, 1, n, 1)}, []int{8}},
		"cut into stretches":  {[]api.Walk{walk(1, 0, s, 1, w, 1, n, 1, e, 1)}, []int{0}},
		"pieces of stretches": {[]api.Walk{walk(1, 1, e, 1, e, 1, s, 1, w, 1, w, 1, n, 1)}, []int{4, 5}},
		"with a hole":         {[]api.Walk{around, walk(1, 1, s, 1, e, 1, n, 1, w, 1)}, []int{0, 1, 2, 3, 5, 6, 7, 8}},
		"over a corner":       {[]api.Walk{walk(0, 0, e, 1, s, 1, e, 1, s, 1, w, 1, n, 1, w, 1, n, 1)}, []int{0, 4}},
		"two at a corner":     {[]api.Walk{walk(0, 0, e, 1, s, 1, w, 1, n, 1), walk(1, 1, e, 1, s, 1, w, 1, n, 1)}, []int{0, 4}},
	} {
		in, err := wood.Enclosed(3, 3, c.walks)
		if err != api.OK || !slices.Equal(in, c.want) {
			t.Error(name, in, err)
		}
		checkSides(t, 3, 3, c.walks, in)
	}
}

func TestEnclosedRefuses(t *testing.T) {
	cell := walk(1, 1, e, 1, s, 1, w, 1, n, 1)
	open := walk(0, 0, e, 1)
	many := walk(0, 0)
	for range api.WoodStretches / 2 {
		many.Stretches = append(many.Stretches, api.Stretch{Dir: api.East, Sides: 1}, api.Stretch{Dir: api.West, Sides: 1})
	}
	more := walk(0, 0)
	more.Stretches = slices.Concat(many.Stretches, []api.Stretch{{Dir: api.East, Sides: 1}})
	for name, c := range map[string]struct {
		width, height int
		walks         []api.Walk
		want          api.Errno
	}{
		"no width":               {0, 3, nil, api.ErrArg},
		"no height":              {3, 0, nil, api.ErrArg},
		"too wide":               {41, 3, nil, api.ErrArg},
		"too high":               {3, 41, nil, api.ErrArg},
		"negative":               {math.MinInt, math.MinInt, nil, api.ErrArg},
		"direction 0":            {3, 3, []api.Walk{walk(0, 0, 0, 1)}, api.ErrArg},
		"direction 5":            {3, 3, []api.Walk{walk(0, 0, 5, 1)}, api.ErrArg},
		"direction -1":           {3, 3, []api.Walk{walk(0, 0, -1, 1)}, api.ErrArg},
		"no sides":               {3, 3, []api.Walk{walk(0, 0, e, 0)}, api.ErrArg},
		"negative sides":         {3, 3, []api.Walk{walk(1, 0, e, -1)}, api.ErrArg},
		"41 sides":               {40, 3, []api.Walk{walk(0, 0, e, 41)}, api.ErrArg},
		"huge sides":             {3, 3, []api.Walk{walk(1, 1, e, math.MaxInt, e, math.MaxInt, e, 2)}, api.ErrArg},
		"from beyond the west":   {3, 3, []api.Walk{walk(-1, 0, e, 1)}, api.ErrArg},
		"from beyond the south":  {3, 3, []api.Walk{walk(0, 4, n, 1)}, api.ErrArg},
		"only a corner, beyond":  {3, 3, []api.Walk{walk(4, 0)}, api.ErrArg},
		"from far away":          {3, 3, []api.Walk{walk(math.MaxInt, math.MinInt, e, 1)}, api.ErrArg},
		"to beyond the east":     {2, 3, []api.Walk{walk(1, 1, e, 2, s, 1, w, 2, n, 1)}, api.ErrArg},
		"on the way beyond":      {3, 3, []api.Walk{walk(0, 0, n, 1, e, 1, s, 1, w, 1)}, api.ErrArg},
		"1001 walks":             {3, 3, make([]api.Walk, 1001), api.ErrArg},
		"1000 walks":             {3, 3, make([]api.Walk, 1000), api.OK},
		"7001 stretches":         {3, 3, []api.Walk{more}, api.ErrArg},
		"7000 stretches":         {3, 3, []api.Walk{many}, api.ErrNone},
		"open":                   {3, 3, []api.Walk{open}, api.ErrNone},
		"open, then no argument": {3, 3, []api.Walk{open, walk(0, 0, e, 0)}, api.ErrArg},
		"twice, then beyond":     {3, 3, []api.Walk{cell, cell, walk(0, 0, n, 1)}, api.ErrArg},
		"closed only together":   {3, 3, []api.Walk{walk(0, 0, e, 1, s, 1), walk(1, 1, w, 1, n, 1)}, api.ErrNone},
		"twice":                  {3, 3, []api.Walk{cell, cell}, api.ErrNone},
		"forth and back":         {3, 3, []api.Walk{walk(0, 0, e, 1, w, 1)}, api.ErrNone},
		"with the left hand":     {3, 3, []api.Walk{walk(1, 1, s, 1, e, 1, n, 1, w, 1)}, api.ErrNone},
		"an eight":               {3, 3, []api.Walk{walk(0, 0, e, 1, s, 2, e, 1, n, 1, w, 2, n, 1)}, api.ErrNone},
		"one in another one":     {3, 3, []api.Walk{walk(0, 0, e, 3, s, 3, w, 3, n, 3), cell}, api.ErrNone},
		"neighbors":              {3, 3, []api.Walk{walk(0, 0, e, 1, s, 1, w, 1, n, 1), walk(1, 0, e, 1, s, 1, w, 1, n, 1)}, api.ErrNone},
	} {
		if in, err := wood.Enclosed(c.width, c.height, c.walks); err != c.want || len(in) != 0 {
			t.Error(name, in, err)
		}
	}
}
