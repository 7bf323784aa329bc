package wood_test

import (
	"math"
	"math/rand"
	"slices"
	"testing"

	"greenhew/api"
	"greenhew/wood"
)

// overturn tells where the cells and sides of a map go when its columns, or its rows, are exchanged.
type overturn struct {
	width, height int
	columns       bool
}

func (o overturn) cell(i int) int {
	x, y := i%o.width, i/o.width
	if o.columns {
		return y*o.width + o.width - 1 - x
	}
	return (o.height-1-y)*o.width + x
}

func (o overturn) side(s api.Side) api.Side {
	switch {
	case o.columns && s.Upright:
		s.X = o.width - s.X
	case o.columns:
		s.X = o.width - 1 - s.X
	case s.Upright:
		s.Y = o.height - 1 - s.Y
	default:
		s.Y = o.height - s.Y
	}
	return s
}

func (o overturn) fence(fence []api.Side) []api.Side {
	var l []api.Side
	for _, s := range fence {
		l = append(l, o.side(s))
	}
	slices.SortFunc(l, inFence)
	return l
}

func (o overturn) themap(m api.WoodMap) api.WoodMap {
	over := clone(m)
	for i, c := range m.Cells {
		over.Cells[o.cell(i)] = c
	}
	for i := range over.Standards {
		over.Standards[i].At = o.cell(m.Standards[i].At)
	}
	return over
}

func TestMapsTurnedOver(t *testing.T) {
	r := rand.New(rand.NewSource(14))
	for i := range 200 {
		m := randomMap(r, 1+r.Intn(7), 1+r.Intn(7))
		o := overturn{m.Width, m.Height, i%2 == 0}
		over := o.themap(m)
		fence, l := randomFence(r, m), someComps(r, m)
		to, load, wet := r.Intn(len(m.Cells)), 1+r.Intn(100), r.Intn(10)
		d1, _ := wood.Deer(m, fence)
		d2, _ := wood.Deer(over, o.fence(fence))
		e1, _ := wood.Efforts(m, to, load, wet)
		e2, _ := wood.Efforts(over, o.cell(to), load, wet)
		for c := range m.Cells {
			l1, _ := wood.Light(m, c)
			l2, _ := wood.Light(over, o.cell(c))
			if l1 != l2 || d1[c] != d2[o.cell(c)] || e1[c] != e2[o.cell(c)] {
				t.Fatal(show(m), o, c)
			}
		}
		for _, s := range allSides(m) {
			p1, _ := wood.Price(m, s)
			p2, _ := wood.Price(over, o.side(s))
			if p1 != p2 || p1 == 0 {
				t.Fatal(show(m), o, s, p1, p2)
			}
		}
		f1, n1, _ := wood.Fence(m, fence, l...)
		f2, n2, _ := wood.Fence(over, o.fence(fence), l...)
		if n1 != n2 || !slices.Equal(o.fence(f1), f2) {
			t.Fatal(show(m), o, f1, f2, n1, n2)
		}
	}
}

func TestArgumentsStayAsTheyAre(t *testing.T) {
	r := rand.New(rand.NewSource(15))
	for range 50 {
		m := randomMap(r, 1+r.Intn(6), 1+r.Intn(6))
		fence, l := randomFence(r, m), someComps(r, m)
		before, fenceBefore, compsBefore := clone(m), slices.Clone(fence), slices.Clone(l)
		cell := r.Intn(len(m.Cells))
		wood.Deer(m, fence)
		wood.Fence(m, fence, l...)
		ways, _ := wood.Ways(m, fence, l...)
		wood.Proves(m, fence, l, ways)
		wood.Horse(m, cell, cell, 1, 0)
		walks, _ := wood.Bounds(m, 1)
		wood.Enclosed(m.Width, m.Height, walks)
		again, _ := wood.Bounds(m, 1)
		if !sameMap(m, before) || !slices.Equal(fence, fenceBefore) || !slices.Equal(l, compsBefore) || !sameWalks(walks, again) {
			t.Fatal(show(before), show(m))
		}
	}
}

// odd returns a number that is often out of range.
func odd(r *rand.Rand) int {
	l := []int{math.MinInt, -2, -1, 0, 1, 2, 3, 4, 5, 9, 10, 40, 41, 100, 101, math.MaxInt}
	return l[r.Intn(len(l))]
}

func oddMap(r *rand.Rand) api.WoodMap {
	m := randomMap(r, 1+r.Intn(5), 1+r.Intn(5))
	switch r.Intn(8) {
	case 0:
		m.Width = odd(r)
	case 1:
		m.Height = odd(r)
	case 2:
		m.Cells = m.Cells[:r.Intn(len(m.Cells))]
	case 3:
		m.Cells[r.Intn(len(m.Cells))] = api.WoodCell{Kind: api.CellKind(odd(r)), Comp: odd(r), Soft: odd(r), Stools: odd(r)}
	case 4:
		m.Standards = append(m.Standards, api.Standard{At: odd(r), Crown: odd(r), Dense: odd(r)})
	}
	return m
}

func oddSides(r *rand.Rand) []api.Side {
	var l []api.Side
	for range r.Intn(3) {
		l = append(l, api.Side{X: odd(r), Y: odd(r), Upright: r.Intn(2) == 0})
	}
	return l
}

func oddInts(r *rand.Rand) []int {
	var l []int
	for range r.Intn(4) {
		l = append(l, odd(r))
	}
	return l
}

func TestFunctionsAnswerForAllArguments(t *testing.T) {
	r := rand.New(rand.NewSource(16))
	for range 5000 {
		m := oddMap(r)
		a, b, c, d := odd(r), odd(r), odd(r), odd(r)
		sides, l := oddSides(r), oddInts(r)
		var ways []api.DeerWay
		var walks []api.Walk
		for range r.Intn(3) {
			way := api.DeerWay{Cells: oddInts(r), Many: odd(r)}
			for _, s := range oddSides(r) {
				way.Over = s
			}
			ways = append(ways, way)
			walks = append(walks, walk(odd(r), odd(r), odd(r), odd(r), odd(r), odd(r)))
		}
		errs := []api.Errno{wood.Check(m)}
		note := func(err api.Errno) { errs = append(errs, err) }
		_, err := wood.Cells(m, a)
		note(err)
		_, err = wood.Borders(m, a)
		note(err)
		_, err = wood.Bounds(m, a)
		note(err)
		_, err = wood.Enclosed(a, b, walks)
		note(err)
		_, err = wood.Light(m, a)
		note(err)
		_, err = wood.LightOf(m, a)
		note(err)
		_, err = wood.Deer(m, sides)
		note(err)
		_, err = wood.Price(m, api.Side{X: a, Y: b, Upright: c > d})
		note(err)
		_, _, err = wood.Fence(m, sides, l...)
		note(err)
		_, err = wood.Ways(m, sides, l...)
		note(err)
		wood.Proves(m, sides, []int{1}, ways)
		_, _, err = wood.Horse(m, a, b, c, d)
		note(err)
		_, err = wood.Efforts(m, a, b, c)
		note(err)
		_, err = wood.Greatest(m, a, b, c)
		note(err)
		_, err = wood.Print(m)
		note(err)
		for _, e := range errs {
			if e != api.OK && e != api.ErrArg && e != api.ErrNone {
				t.Fatal(show(m), errs)
			}
		}
		if errs[0] != api.OK && slices.Contains(errs[5:], api.ErrNone) {
			t.Fatal("a map that is none has no better error than ErrArg:", m, errs)
		}
	}
}
