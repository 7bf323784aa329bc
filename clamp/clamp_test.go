package clamp_test

import (
	"math"
	"math/rand"
	"slices"
	"testing"

	"greenhew/api"
	"greenhew/clamp"
)

func TestAirOfTheChapter(t *testing.T) {
	for _, c := range []struct {
		open bool
		want []int
	}{{true, []int{45, 35}}, {false, []int{0, 0}}} {
		if airs, err := clamp.Air(chapterLaws(), chapterClamp(45), []bool{c.open}); err != api.OK || !slices.Equal(airs, c.want) {
			t.Error(c, airs, err)
		}
	}
}

func TestAirByTheWay(t *testing.T) {
	c := empty(4, 3, api.Vent{Cell: 0, Draft: 30}, api.Vent{Cell: 11, Draft: 25}, api.Vent{Cell: 11, Draft: 10})
	f := chapterLaws()
	for _, x := range []struct {
		resist int
		open   []bool
		want   []int
	}{
		{10, []bool{true, false, false}, []int{30, 20, 10, 0, 20, 10, 0, 0, 10, 0, 0, 0}},
		{10, []bool{false, true, false}, []int{0, 0, 0, 5, 0, 0, 5, 15, 0, 5, 15, 25}},
		{10, []bool{false, false, true}, []int{0, 0, 0, 0, 0, 0, 0, 0, 0, 0, 0, 10}},
		{10, []bool{true, true, true}, []int{30, 20, 10, 5, 20, 10, 5, 15, 10, 5, 15, 25}},
		{0, []bool{true, true, false}, slices.Repeat([]int{30}, 12)},
		{1, []bool{false, true, true}, []int{20, 21, 22, 23, 21, 22, 23, 24, 22, 23, 24, 25}},
		{1000, []bool{true, true, true}, []int{30, 0, 0, 0, 0, 0, 0, 0, 0, 0, 0, 25}},
		{10, []bool{false, false, false}, make([]int, 12)},
	} {
		f.Resist = x.resist
		if airs, err := clamp.Air(f, c, x.open); err != api.OK || !slices.Equal(airs, x.want) {
			t.Error(x, airs, err)
		}
	}
	if airs, err := clamp.Air(f, empty(2, 2), nil); err != api.OK || !slices.Equal(airs, make([]int, 4)) {
		t.Error("without vents:", airs, err)
	}
}

// P6.1: The air is as the chapter says; that of neighbors differs by at most Resist, and more open vents never mean less.
func TestAirAgainstTheChapter(t *testing.T) {
	r := rand.New(rand.NewSource(1))
	for range 3000 {
		f, c := randomFire(r), randomClamp(r)
		open := randomOpen(r, len(c.Vents))
		airs, err := clamp.Air(f, c, open)
		if err != api.OK || len(airs) != len(c.Cells) {
			t.Fatal(f, c, open, airs, err)
		}
		for i, air := range airs {
			if air != airOf(f, c, open, i) {
				t.Fatal(f, c, open, i, air)
			}
			for k, other := range airs {
				if wayOf(c, i, k) == 1 && air-other > f.Resist {
					t.Fatal(f, c, open, "neighbors differ:", i, k, airs)
				}
			}
		}
		for i := range open {
			more := slices.Clone(open)
			more[i] = true
			greater, _ := clamp.Air(f, c, more)
			for k := range airs {
				if greater[k] < airs[k] {
					t.Fatal(f, c, open, "less air with the vent", i, airs, greater)
				}
			}
		}
	}
}

func TestWeighAndBrown(t *testing.T) {
	if x, err := clamp.Weigh(chapterClamp(45)); err != api.OK || x != (api.Cell{Wood: 100, Water: 5, Heat: 800}) {
		t.Error(x, err)
	}
	if l, err := clamp.Brown(chapterClamp(45)); err != api.OK || !slices.Equal(l, []int{0, 1}) {
		t.Error(l, err)
	}
	c := empty(2, 2)
	if l, err := clamp.Brown(c); err != api.OK || len(l) != 0 {
		t.Error(l, err)
	}
	c.Cells[1] = api.Cell{Water: 1, Char: 2, Ash: 3, Heat: 4}
	c.Cells[2] = api.Cell{Wood: 1, Water: 10, Char: 20, Ash: 30, Heat: 40}
	if l, err := clamp.Brown(c); err != api.OK || !slices.Equal(l, []int{2}) {
		t.Error(l, err)
	}
	if x, err := clamp.Weigh(c); err != api.OK || x != (api.Cell{Wood: 1, Water: 11, Char: 22, Ash: 33, Heat: 44}) {
		t.Error(x, err)
	}
	full := empty(api.ClampWide, api.ClampHigh)
	for i := range full.Cells {
		full.Cells[i] = api.Cell{Char: 1, Ash: api.ClampMass - 1, Heat: api.ClampHeat}
	}
	if x, err := clamp.Weigh(full); err != api.OK || x != (api.Cell{Char: 36, Ash: 36*api.ClampMass - 36, Heat: 36 * api.ClampHeat}) {
		t.Error(x, err)
	}
}

func TestWeighAndBrownOfRandomClamps(t *testing.T) {
	r := rand.New(rand.NewSource(2))
	for range 500 {
		c := randomClamp(r)
		x := weighed(t, c)
		brown, err := clamp.Brown(c)
		if err != api.OK || !slices.IsSorted(brown) {
			t.Fatal(c, brown, err)
		}
		for i, y := range c.Cells {
			x.Wood -= y.Wood
			x.Water -= y.Water
			x.Char -= y.Char
			x.Ash -= y.Ash
			x.Heat -= y.Heat
			if slices.Contains(brown, i) != (y.Wood > 0) {
				t.Fatal(c, brown)
			}
		}
		if x != (api.Cell{}) || len(slices.Compact(brown)) != len(brown) {
			t.Fatal(c, x, brown)
		}
	}
}

func TestKindle(t *testing.T) {
	for _, x := range []struct {
		cell, heat int
		want       []int
	}{
		{0, 300, []int{500, 600}},
		{1, 300, []int{200, 900}},
		{1, 0, []int{200, 600}},
		{0, api.ClampHeat - 200, []int{api.ClampHeat, 600}},
		{1, api.ClampHeat - 600, []int{200, api.ClampHeat}},
	} {
		want := chapterClamp(45)
		want.Cells[0].Heat, want.Cells[1].Heat = x.want[0], x.want[1]
		if c, err := clamp.Kindle(chapterClamp(45), x.cell, x.heat); err != api.OK || !sameClamp(c, want) {
			t.Error(x, c, err)
		}
	}
	if c, err := clamp.Kindle(oneCell(api.Cell{}), 0, api.ClampHeat); err != api.OK || c.Cells[0].Heat != api.ClampHeat {
		t.Error(c, err)
	}
	for _, x := range []struct {
		cell, heat int
		want       api.Errno
	}{
		{0, api.ClampHeat - 199, api.ErrLong},
		{1, api.ClampHeat - 599, api.ErrLong},
		{1, api.ClampHeat, api.ErrLong},
		{1, api.ClampHeat + 1, api.ErrArg},
		{0, -1, api.ErrArg},
		{0, math.MaxInt, api.ErrArg},
		{0, math.MinInt, api.ErrArg},
		{-1, 0, api.ErrArg},
		{2, 0, api.ErrArg},
		{2, api.ClampHeat, api.ErrArg},
		{math.MaxInt, 1, api.ErrArg},
		{math.MinInt, 1, api.ErrArg},
	} {
		if c, err := clamp.Kindle(chapterClamp(45), x.cell, x.heat); err != x.want || !sameClamp(c, api.Clamp{}) {
			t.Error(x, c, err)
		}
	}
}
