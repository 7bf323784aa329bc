package wood_test

import (
	"math"
	"math/rand"
	"testing"

	"greenhew/api"
	"greenhew/wood"
)

func TestLight(t *testing.T) {
	m := read(t, example)
	for cell, want := range []int{100, 40, 100, 100, 40, 40, 40, 100, 100, 40, 100, 100} {
		if got, err := wood.Light(m, cell); err != api.OK || got != want {
			t.Error(cell, got, err)
		}
	}
	for comp, want := range map[int]int{1: 120, 2: 200} {
		if got, err := wood.LightOf(m, comp); err != api.OK || got != want {
			t.Error(comp, got, err)
		}
	}
	for _, cell := range []int{-1, 12, math.MaxInt, math.MinInt} {
		if got, err := wood.Light(m, cell); err != api.ErrArg || got != 0 {
			t.Error(cell, got, err)
		}
	}
	for _, comp := range []int{-1, 0, 3, math.MaxInt} {
		if got, err := wood.LightOf(m, comp); err != api.ErrArg || got != 0 {
			t.Error(comp, got, err)
		}
	}
}

func TestCrowns(t *testing.T) {
	m := rides(10, 10)
	m.Standards = []api.Standard{{At: 0, Crown: 5, Dense: 30}}
	// 3 and 4 columns and rows away is as far as the crown reaches, 4 and 4 is not, and 9 in a row is not.
	for cell, want := range map[int]int{0: 70, 43: 70, 34: 70, 44: 100, 5: 70, 6: 100, 50: 70, 60: 100, 9: 100} {
		if got, _ := wood.Light(m, cell); got != want {
			t.Error(cell, got)
		}
	}
	m.Standards = []api.Standard{{At: 11, Crown: 0, Dense: 30}, {At: 12, Crown: 1, Dense: 70}, {At: 13, Crown: 2, Dense: 1}}
	for cell, want := range map[int]int{11: 0, 12: 29, 10: 100, 14: 99, 15: 99, 13: 29} {
		if got, _ := wood.Light(m, cell); got != want {
			t.Error(cell, got)
		}
	}
}

func TestMoreStandardsGiveNoMoreLight(t *testing.T) {
	r := rand.New(rand.NewSource(3))
	for range 200 {
		m := randomMap(r, 1+r.Intn(8), 1+r.Intn(8))
		more := clone(m)
		more.Standards = append(more.Standards, api.Standard{At: r.Intn(len(m.Cells)), Crown: r.Intn(9), Dense: 1 + r.Intn(100)})
		if wood.Check(more) != api.OK {
			continue
		}
		for i := range m.Cells {
			before, _ := wood.Light(m, i)
			after, _ := wood.Light(more, i)
			if after > before || after < 0 {
				t.Fatal(show(more), i, before, after)
			}
		}
		for comp := 1; comp <= comps(m); comp++ {
			cells, _ := wood.Cells(m, comp)
			sum := 0
			for _, i := range cells {
				one, _ := wood.Light(m, i)
				sum += one
			}
			if got, _ := wood.LightOf(m, comp); got != sum {
				t.Fatal(show(m), comp, got, sum)
			}
		}
	}
}
