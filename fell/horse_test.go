package fell_test

import (
	"math"
	"math/rand"
	"testing"

	"greenhew/api"
	"greenhew/fell"
	"greenhew/wood"
)

func TestLoadsOfTheChapter(t *testing.T) {
	m := read(t, example)
	// From the cell 9 to the ride 10: 2, and its Soft times the wetness.
	for sky, want := range map[api.Sky]int{storm: 0, wet: 33, dry: 75, frost: 150} {
		if n, err := fell.Loads(m, 10, 1, 50, sky); err != api.OK || n != want {
			t.Error(sky, n, err)
		}
	}
	for sky, want := range map[api.Sky]int{storm: 0, wet: 0, dry: 75, frost: 150} {
		if n, err := fell.Loads(m, 10, 1, 91, sky); err != api.OK || n != want {
			t.Error(sky, n, err)
		}
	}
	// The cells 5 and 9 carry 79 under a wet sky, the cell 6 carries 65.
	for load, want := range map[int]int{65: 33, 79: 33, 80: 0} {
		if n, err := fell.Loads(m, 10, 1, load, wet); err != api.OK || n != want {
			t.Error(load, n, err)
		}
	}
}

func TestHaulsOfTheChapter(t *testing.T) {
	m := read(t, example)
	for _, c := range []struct {
		load, loads int
		want        api.FellJob
	}{
		{90, 200, api.FellJob{Days: 3, Least: dry}},
		{90, 150, api.FellJob{Days: 2, Least: dry}},
		{90, 151, api.FellJob{Days: 3, Least: dry}},
		{90, 75, api.FellJob{Days: 1, Least: dry}},
		{90, 1, api.FellJob{Days: 1, Least: dry}},
		{79, 66, api.FellJob{Days: 2, Least: wet}},
		{79, 67, api.FellJob{Days: 3, Least: wet}},
		{95, 151, api.FellJob{Days: 2, Least: frost}},
		{100, 150, api.FellJob{Days: 1, Least: frost}},
	} {
		if j, err := fell.Haul(m, 10, 1, c.load, c.loads); err != api.OK || j != c.want {
			t.Error(c, j, err)
		}
	}
}

func TestHorsesThatDrawNothing(t *testing.T) {
	m := read(t, example)
	// To water and to a bank there is no way.
	for _, yard := range []int{1, 3} {
		for _, sky := range skiesFromTheWorst {
			if n, err := fell.Loads(m, yard, 1, 1, sky); err != api.OK || n != 0 {
				t.Error(yard, sky, n, err)
			}
		}
		if j, err := fell.Haul(m, yard, 1, 1, 1); err != api.ErrNone || j != (api.FellJob{}) {
			t.Error(yard, j, err)
		}
	}
	far := read(t, "wood 16 1\n1:0:0 2:0:20 3:0:20 4:0:20 5:0:20 6:0:20 7:0:20 8:0:20 9:0:20 10:0:20 11:0:20 12:0:20 13:0:20 r0 r0 r0\n")
	for yard, want := range map[int]int{11: 1, 12: 1, 13: 0, 14: 0, 15: 0} {
		// 25 for each of the woods, 2 for each of the rides: 600 is two times 12 woods.
		if n, err := fell.Loads(far, yard, 1, 1, frost); err != api.OK || n != want {
			t.Error(yard, n, err)
		}
		if _, err := fell.Haul(far, yard, 1, 1, 1); (err == api.OK) != (want > 0) || err != api.OK && err != api.ErrNone {
			t.Error(yard, err)
		}
	}
}

func TestYardInTheCompartment(t *testing.T) {
	m := read(t, example)
	for _, yard := range []int{5, 6, 9} {
		// No effort at all counts as 1.
		if n, err := fell.Loads(m, yard, 1, 30, wet); err != api.OK || n != 300 {
			t.Error(yard, n, err)
		}
	}
	// In the cell 6 a horse cannot stand with more than 65.
	if n, err := fell.Loads(m, 6, 1, 66, wet); err != api.OK || n != 0 {
		t.Error(n, err)
	}
	if j, err := fell.Haul(m, 9, 1, 79, 200); err != api.OK || j != (api.FellJob{Days: 1, Least: wet}) {
		t.Error(j, err)
	}
}

func TestHaulsMayTakeManyDays(t *testing.T) {
	m := read(t, "wood 12 1\n1:0:0 2:0:20 2:0:20 2:0:20 2:0:20 2:0:20 2:0:20 2:0:20 2:0:20 2:0:20 2:0:20 2:0:20\n")
	if j, err := fell.Haul(m, 11, 1, 100, api.FellLoads); err != api.OK || j != (api.FellJob{Days: 200, Least: wet}) {
		t.Error(j, err)
	}
}

// plainLoads asks layer 1 for the way from each cell.
func plainLoads(m api.WoodMap, yard, comp, load int, sky api.Sky) int {
	wetness, goes := map[api.Sky]int{wet: 7, dry: 2, frost: 0}[sky]
	least := 0
	for i, c := range m.Cells {
		if c.Comp != comp {
			continue
		}
		if _, effort, err := wood.Horse(m, i, yard, load, wetness); err == api.OK && (least == 0 || max(1, effort) < least) {
			least = max(1, effort)
		}
	}
	if !goes || least == 0 {
		return 0
	}
	return 600 / (2 * least)
}

func TestLoadsAndHaulsAgainstLayer1(t *testing.T) {
	r := rand.New(rand.NewSource(10))
	some := 0
	for range 400 {
		m := randomMap(r, 2+r.Intn(5), 2+r.Intn(5), 1+r.Intn(3))
		yard, load, loads := r.Intn(len(m.Cells)), 1+r.Intn(100), 1+r.Intn(200)
		var haul api.FellJob
		before := 0
		for _, sky := range skiesFromTheWorst {
			want := plainLoads(m, yard, 1, load, sky)
			n, err := fell.Loads(m, yard, 1, load, sky)
			if err != api.OK || n != want || n < before {
				t.Fatal(m, yard, load, sky, n, err, want, before)
			}
			if heavier, err := fell.Loads(m, yard, 1, load+r.Intn(101-load), sky); err != api.OK || heavier > n {
				t.Fatal(m, yard, load, sky, n, heavier, err)
			}
			if before == 0 && n > 0 {
				some++
				haul = api.FellJob{Days: int(math.Ceil(float64(loads) / float64(n))), Least: sky}
			}
			before = n
		}
		j, err := fell.Haul(m, yard, 1, load, loads)
		if j != haul || (err == api.ErrNone) != (before == 0) || err != api.OK && err != api.ErrNone {
			t.Fatal(m, yard, load, loads, j, err, haul)
		}
	}
	if some < 100 {
		t.Error("so few horses draw anything:", some)
	}
}

func TestLoadsAndHaulsRefuse(t *testing.T) {
	m := read(t, example)
	wrong := read(t, example)
	wrong.Cells[0].Soft = 10
	for name, c := range map[string]struct {
		m                       api.WoodMap
		yard, comp, load, loads int
		sky                     api.Sky
	}{
		"no map":               {api.WoodMap{}, 0, 1, 50, 10, dry},
		"a wrong map":          {wrong, 10, 1, 50, 10, dry},
		"a yard before all":    {m, -1, 1, 50, 10, dry},
		"a yard after all":     {m, 12, 1, 50, 10, dry},
		"no compartment":       {m, 10, 0, 50, 10, dry},
		"one too many":         {m, 10, 3, 50, 10, dry},
		"one less than none":   {m, 10, -1, 50, 10, dry},
		"no load":              {m, 10, 1, 0, 10, dry},
		"too great a load":     {m, 10, 1, 101, 10, dry},
		"before all skies":     {m, 10, 1, 50, 0, 0},
		"after all skies":      {m, 10, 1, 50, 0, frost + 1},
		"no loads":             {m, 10, 1, 50, 0, -1},
		"too many loads":       {m, 10, 1, 50, api.FellLoads + 1, 5},
		"storm for a wrong m":  {wrong, 10, 1, 50, 10, storm},
		"storm for no yard":    {m, 12, 1, 50, 10, storm},
		"storm for no comp":    {m, 10, 3, 50, 10, storm},
		"storm for no load":    {m, 10, 1, 0, 10, storm},
		"the least numbers":    {m, math.MinInt, math.MinInt, math.MinInt, math.MinInt, math.MinInt},
		"the greatest numbers": {m, math.MaxInt, math.MaxInt, math.MaxInt, math.MaxInt, math.MaxInt},
		"water, and no comp":   {m, 3, 3, 50, 10, dry},
		"water, and no load":   {m, 3, 1, 0, 10, dry},
		"water, and no loads":  {m, 3, 1, 50, 0, 0},
		"water, and too many":  {m, 3, 1, 50, 201, 6},
	} {
		if n, err := fell.Loads(c.m, c.yard, c.comp, c.load, c.sky); err != api.ErrArg || n != 0 {
			t.Error(name, n, err)
		}
		if j, err := fell.Haul(c.m, c.yard, c.comp, c.load, c.loads); err != api.ErrArg || j != (api.FellJob{}) {
			t.Error(name, j, err)
		}
	}
}
