package wood_test

import (
	"math"
	"math/rand"
	"slices"
	"testing"

	"greenhew/api"
	"greenhew/wood"
)

func TestHorseOfTheChapter(t *testing.T) {
	m := read(t, example)
	way, effort, err := wood.Horse(m, 9, 7, 50, 2)
	if err != api.OK || effort != 22 || !slices.Equal(way, []int{9, 10, 11, 7}) {
		t.Error(way, effort, err)
	}
	if greatest, err := wood.Greatest(m, 9, 7, 9); err != api.OK || greatest != 73 {
		t.Error(greatest, err)
	}
	if way, effort, err := wood.Horse(m, 9, 7, 73, 9); err != api.OK || len(way) == 0 || effort == 0 {
		t.Error(way, effort, err)
	}
	if way, effort, err := wood.Horse(m, 9, 7, 74, 9); err != api.ErrNone || len(way)+effort != 0 {
		t.Error(way, effort, err)
	}
	l, err := wood.Efforts(m, 7, 50, 2)
	if err != api.OK || !slices.Equal(l, []int{40, -1, 22, -1, 37, 22, 7, 0, 34, 22, 18, 7}) {
		t.Error(l, err)
	}
}

func TestHorseStaysWhereItIs(t *testing.T) {
	m := read(t, example)
	if way, effort, err := wood.Horse(m, 7, 7, 100, 9); err != api.OK || effort != 0 || !slices.Equal(way, []int{7}) {
		t.Error(way, effort, err)
	}
	for _, cell := range []int{1, 3} {
		if way, effort, err := wood.Horse(m, cell, cell, 1, 0); err != api.ErrNone || len(way)+effort != 0 {
			t.Error("neither banks nor water carry:", way, effort, err)
		}
		if greatest, err := wood.Greatest(m, cell, cell, 0); err != api.ErrNone || greatest != 0 {
			t.Error(greatest, err)
		}
		if l, err := wood.Efforts(m, cell, 1, 0); err != api.OK || !slices.Equal(l, slices.Repeat([]int{-1}, 12)) {
			t.Error(l, err)
		}
	}
	if greatest, err := wood.Greatest(m, 5, 5, 9); err != api.OK || greatest != 73 {
		t.Error(greatest, err)
	}
	if greatest, err := wood.Greatest(m, 5, 7, 0); err != api.OK || greatest != 100 {
		t.Error(greatest, err)
	}
}

func TestHorseChoosesTheBestWay(t *testing.T) {
	for name, c := range map[string]struct {
		sheet    string
		from, to int
		want     []int
		effort   int
	}{
		"less effort by more cells":   {"wood 3 2\nr0 1:0:20 r0\nr0 r0 r0\n", 0, 2, []int{0, 3, 4, 5, 2}, 8},
		"fewer cells for that effort": {"wood 3 2\nr0 1:0:1 r0\nr0 r0 r0\n", 0, 2, []int{0, 1, 2}, 8},
		"first the least index":       {"wood 3 3\nr0 r0 r0\nr0 r0 r0\nr0 r0 r0\n", 0, 8, []int{0, 1, 2, 5, 8}, 8},
		"and the least index back":    {"wood 3 3\nr0 r0 r0\nr0 r0 r0\nr0 r0 r0\n", 8, 0, []int{8, 5, 2, 1, 0}, 8},
		"to the west before the east": {"wood 3 3\nr0 r0 r0\nr0 b0 r0\nr0 r0 r0\n", 7, 1, []int{7, 6, 3, 0, 1}, 8},
	} {
		way, effort, err := wood.Horse(read(t, c.sheet), c.from, c.to, 100, 0)
		if err != api.OK || effort != c.effort || !slices.Equal(way, c.want) {
			t.Error(name, way, effort, err)
		}
	}
}

// plainHorse goes through all ways that come to no cell twice.
type plainHorse struct {
	m             api.WoodMap
	to, load, wet int
	best          []int
	effort        int
}

func (h *plainHorse) carries(cell int) bool {
	c := h.m.Cells[cell]
	return c.Kind != api.CellBank && c.Kind != api.CellWater && h.load <= 100-c.Soft*h.wet
}

func (h *plainHorse) enter(cell int) int {
	c := h.m.Cells[cell]
	return map[api.CellKind]int{api.CellRide: 2, api.CellField: 3, api.CellWood: 5 + c.Stools}[c.Kind] + c.Soft*h.wet
}

func (h *plainHorse) goOn(way []int, effort int) {
	last := way[len(way)-1]
	if !h.carries(last) {
		return
	}
	if last == h.to {
		if h.best == nil || effort < h.effort || effort == h.effort && (len(way) < len(h.best) || len(way) == len(h.best) && slices.Compare(way, h.best) < 0) {
			h.best, h.effort = slices.Clone(way), effort
		}
		return
	}
	for _, d := range dirs {
		if to := beyond(h.m, last, d); to >= 0 && !slices.Contains(way, to) {
			h.goOn(append(way, to), effort+h.enter(to))
		}
	}
}

func TestHorseAgainstAllWays(t *testing.T) {
	r := rand.New(rand.NewSource(9))
	for range 150 {
		m := randomMap(r, 1+r.Intn(4), 1+r.Intn(4))
		if r.Intn(2) == 0 {
			makeEven(m)
		}
		load, wet, to := 1+r.Intn(100), r.Intn(10), r.Intn(len(m.Cells))
		l, e := wood.Efforts(m, to, load, wet)
		if e != api.OK || len(l) != len(m.Cells) {
			t.Fatal(show(m), e, l)
		}
		for from := range m.Cells {
			h := plainHorse{m: m, to: to, load: load, wet: wet}
			h.goOn([]int{from}, 0)
			way, effort, err := wood.Horse(m, from, to, load, wet)
			if h.best == nil {
				if err != api.ErrNone || len(way)+effort != 0 || l[from] != -1 {
					t.Fatal(show(m), from, to, load, wet, way, effort, err, l)
				}
				continue
			}
			if err != api.OK || effort != h.effort || !slices.Equal(way, h.best) || l[from] != effort {
				t.Fatal(show(m), from, to, load, wet, way, effort, err, h.best, h.effort, l)
			}
		}
	}
}

// makeEven gives all cells but water and banks nearly the same ground, so that many ways are equally good.
func makeEven(m api.WoodMap) {
	for i := range m.Cells {
		m.Cells[i].Stools = 0
		m.Cells[i].Soft = 0
	}
}

func TestGreatestIsTheGreatest(t *testing.T) {
	r := rand.New(rand.NewSource(10))
	for range 300 {
		m := randomMap(r, 1+r.Intn(6), 1+r.Intn(6))
		from, to, wet := r.Intn(len(m.Cells)), r.Intn(len(m.Cells)), r.Intn(10)
		want := 0
		for load := 1; load <= 100; load++ {
			if _, _, err := wood.Horse(m, from, to, load, wet); err == api.OK {
				want = load
			}
		}
		got, err := wood.Greatest(m, from, to, wet)
		if got != want || (err == api.ErrNone) != (want == 0) || err != api.OK && err != api.ErrNone {
			t.Fatal(show(m), from, to, wet, got, err, want)
		}
	}
}

func TestMoreIsNeverLessEffort(t *testing.T) {
	r := rand.New(rand.NewSource(11))
	for range 200 {
		m := randomMap(r, 1+r.Intn(7), 1+r.Intn(7))
		to, load, wet := r.Intn(len(m.Cells)), 1+r.Intn(99), r.Intn(9)
		before, _ := wood.Efforts(m, to, load, wet)
		heavier, _ := wood.Efforts(m, to, load+1+r.Intn(100-load), wet)
		wetter, _ := wood.Efforts(m, to, load, wet+1)
		for _, after := range [][]int{heavier, wetter} {
			for i, n := range after {
				if n != -1 && (before[i] == -1 || n < before[i]) {
					t.Fatal(show(m), to, load, wet, before, after)
				}
			}
		}
	}
}

func TestHorseRefuses(t *testing.T) {
	m := read(t, example)
	for _, c := range [][4]int{
		{-1, 7, 50, 2}, {12, 7, 50, 2}, {9, -1, 50, 2}, {9, 12, 50, 2}, {9, 7, 0, 2}, {9, 7, 101, 2}, {9, 7, 50, -1}, {9, 7, 50, 10},
		{math.MinInt, math.MaxInt, math.MinInt, math.MaxInt}, {math.MaxInt, 7, 50, 2}, {3, 12, 50, 2},
	} {
		way, effort, err := wood.Horse(m, c[0], c[1], c[2], c[3])
		if err != api.ErrArg || len(way)+effort != 0 {
			t.Error(c, way, effort, err)
		}
		if c[0] >= 0 && c[0] < 12 {
			if l, err := wood.Efforts(m, c[1], c[2], c[3]); err != api.ErrArg || len(l) != 0 {
				t.Error(c, l, err)
			}
		}
		if c[2] == 50 {
			if greatest, err := wood.Greatest(m, c[0], c[1], c[3]); err != api.ErrArg || greatest != 0 {
				t.Error(c, greatest, err)
			}
		}
	}
}
