package clamp_test

import (
	"math/rand"
	"slices"
	"testing"

	"greenhew/api"
	"greenhew/clamp"
)

func TestStepsOfTheChapter(t *testing.T) {
	first := api.Cell{Wood: 50, Heat: 180}
	for _, x := range []struct {
		draft  int
		open   bool
		second api.Cell
		burn   api.Burn
		color  api.Color
		flames []int
	}{
		{45, true, api.Cell{Wood: 30, Heat: 539}, api.Burn{White: 5, Yellow: 14, Blue: 6, Burnt: 6, Lost: 79}, yellow, nil},
		{45, false, api.Cell{Wood: 30, Char: 6, Heat: 495}, api.Burn{White: 5, Yellow: 14, Lost: 75}, api.ColorNone, nil},
		{60, true, api.Cell{Wood: 30, Heat: 602}, api.Burn{White: 5, Blue: 20, Flamed: 14, Burnt: 6, Lost: 86}, blue, []int{1}},
	} {
		want := api.Moment{Clamp: chapterClamp(x.draft), Burn: x.burn, Colors: []api.Color{x.color}, Flames: x.flames}
		want.Clamp.Cells = []api.Cell{first, x.second}
		if m, err := clamp.Step(chapterLaws(), chapterClamp(x.draft), []bool{x.open}); err != api.OK || !sameMoment(m, want) {
			t.Error(x, m, err)
		}
	}
}

// TestWhatOneCellComesTo has the laws of the chapter, but for the heat that is lost.
func TestWhatOneCellComesTo(t *testing.T) {
	for name, x := range map[string]struct {
		before api.Cell
		air    int
		after  api.Cell
		burn   api.Burn
		flames bool
	}{
		"nothing":               {api.Cell{}, 1000, api.Cell{}, api.Burn{}, false},
		"not hot enough":        {api.Cell{Water: 5, Heat: 99}, 0, api.Cell{Water: 5, Heat: 99}, api.Burn{}, false},
		"no heat to spare":      {api.Cell{Water: 5, Heat: 100}, 0, api.Cell{Water: 5, Heat: 100}, api.Burn{}, false},
		"just not a gram":       {api.Cell{Water: 5, Heat: 109}, 0, api.Cell{Water: 5, Heat: 109}, api.Burn{}, false},
		"one gram":              {api.Cell{Water: 5, Heat: 110}, 0, api.Cell{Water: 4, Heat: 100}, api.Burn{White: 1}, false},
		"nearly all":            {api.Cell{Water: 5, Heat: 149}, 0, api.Cell{Water: 1, Heat: 109}, api.Burn{White: 4}, false},
		"all water":             {api.Cell{Water: 5, Heat: 150}, 0, api.Cell{Heat: 100}, api.Burn{White: 5}, false},
		"hotter":                {api.Cell{Water: 5, Heat: 250}, 0, api.Cell{Heat: 200}, api.Burn{White: 5}, false},
		"too cool to turn":      {api.Cell{Wood: 50, Heat: 299}, 40, api.Cell{Wood: 50, Heat: 299}, api.Burn{}, false},
		"turns":                 {api.Cell{Wood: 50, Heat: 300}, 39, api.Cell{Wood: 30, Char: 6, Heat: 300}, api.Burn{Yellow: 14}, false},
		"flames":                {api.Cell{Wood: 50, Heat: 300}, 40, api.Cell{Wood: 30, Char: 6, Heat: 370}, api.Burn{Blue: 14, Flamed: 14}, true},
		"the last wood":         {api.Cell{Wood: 20, Heat: 300}, 0, api.Cell{Char: 6, Heat: 300}, api.Burn{Yellow: 14}, false},
		"less wood":             {api.Cell{Wood: 19, Heat: 300}, 0, api.Cell{Char: 5, Heat: 300}, api.Burn{Yellow: 14}, false},
		"a gram of wood":        {api.Cell{Wood: 1, Char: 7, Heat: 300}, 40, api.Cell{Char: 7, Heat: 305}, api.Burn{Blue: 1, Flamed: 1}, true},
		"boils, then turns":     {api.Cell{Wood: 50, Water: 5, Heat: 350}, 0, api.Cell{Wood: 30, Char: 6, Heat: 300}, api.Burn{White: 5, Yellow: 14}, false},
		"too cool by boiling":   {api.Cell{Wood: 50, Water: 5, Heat: 349}, 99, api.Cell{Wood: 50, Heat: 299}, api.Burn{White: 5}, false},
		"still wet":             {api.Cell{Wood: 50, Water: 50, Heat: 599}, 99, api.Cell{Wood: 50, Water: 1, Heat: 109}, api.Burn{White: 49}, false},
		"too cool to glow":      {api.Cell{Char: 50, Heat: 399}, 45, api.Cell{Char: 50, Heat: 399}, api.Burn{}, false},
		"glows":                 {api.Cell{Char: 50, Ash: 3, Heat: 400}, 45, api.Cell{Char: 5, Ash: 7, Heat: 760}, api.Burn{Blue: 41, Burnt: 45}, false},
		"no air":                {api.Cell{Char: 50, Heat: 400}, 0, api.Cell{Char: 50, Heat: 400}, api.Burn{}, false},
		"little air":            {api.Cell{Char: 50, Heat: 400}, 9, api.Cell{Char: 41, Heat: 472}, api.Burn{Blue: 9, Burnt: 9}, false},
		"little char":           {api.Cell{Char: 10, Heat: 400}, 45, api.Cell{Ash: 1, Heat: 480}, api.Burn{Blue: 9, Burnt: 10}, false},
		"flames, then glows":    {api.Cell{Wood: 50, Heat: 330}, 40, api.Cell{Wood: 30, Heat: 448}, api.Burn{Blue: 20, Flamed: 14, Burnt: 6}, true},
		"wet, but glows":        {api.Cell{Wood: 5, Water: 100, Char: 1, Heat: 1000}, 50, api.Cell{Wood: 5, Water: 10, Char: 1, Heat: 100}, api.Burn{White: 90}, false},
		"boils, turns, glows":   {api.Cell{Wood: 50, Water: 1, Char: 4, Heat: 410}, 39, api.Cell{Wood: 30, Ash: 1, Heat: 480}, api.Burn{White: 1, Yellow: 14, Blue: 9, Burnt: 10}, false},
		"all, with all the air": {api.Cell{Wood: 30, Water: 2, Char: 30, Ash: 1, Heat: 420}, 1000, api.Cell{Wood: 10, Ash: 4, Heat: 758}, api.Burn{White: 2, Blue: 47, Flamed: 14, Burnt: 36}, true},
	} {
		f := chapterLaws()
		f.Loss = 1000000
		m := stepped(t, f, oneCell(x.before, x.air), []bool{true})
		if m.Clamp.Cells[0] != x.after || m.Burn != x.burn || (len(m.Flames) > 0) != x.flames {
			t.Error(name, m)
		}
	}
}

func TestLawsAtTheirLimits(t *testing.T) {
	wood, char := api.Cell{Wood: 50, Heat: 300}, api.Cell{Char: 50, Heat: 400}
	for name, x := range map[string]struct {
		change func(f *api.Fire)
		before api.Cell
		after  api.Cell
		burn   api.Burn
		flames bool
	}{
		"no gas never flames":        {func(f *api.Fire) { f.Yield = 100 }, wood, api.Cell{Wood: 30, Char: 20, Heat: 300}, api.Burn{}, false},
		"all is gas":                 {func(f *api.Fire) { f.Yield = 0 }, wood, api.Cell{Wood: 30, Heat: 400}, api.Burn{Blue: 20, Flamed: 20}, true},
		"a flame without heat":       {func(f *api.Fire) { f.Gas = 0 }, wood, api.Cell{Wood: 30, Char: 6, Heat: 300}, api.Burn{Blue: 14, Flamed: 14}, true},
		"slow wood":                  {func(f *api.Fire) { f.Rate = 1 }, wood, api.Cell{Wood: 49, Heat: 305}, api.Burn{Blue: 1, Flamed: 1}, true},
		"fast wood":                  {func(f *api.Fire) { f.Rate = 1000 }, wood, api.Cell{Ash: 1, Heat: 595}, api.Burn{Blue: 49, Flamed: 35, Burnt: 15}, true},
		"all char is ash":            {func(f *api.Fire) { f.Cinder = 1 }, char, api.Cell{Ash: 50, Heat: 800}, api.Burn{Burnt: 50}, false},
		"no char is ash":             {func(f *api.Fire) { f.Cinder = 1000 }, char, api.Cell{Heat: 800}, api.Burn{Blue: 50, Burnt: 50}, false},
		"char without heat":          {func(f *api.Fire) { f.Calor = 0 }, char, api.Cell{Ash: 5, Heat: 400}, api.Burn{Blue: 45, Burnt: 50}, false},
		"wood turns in the cold":     {func(f *api.Fire) { f.Coke = 0 }, api.Cell{Wood: 20}, api.Cell{Char: 6, Heat: 70}, api.Burn{Blue: 14, Flamed: 14}, true},
		"char glows in the cold":     {func(f *api.Fire) { f.Glow = 0 }, api.Cell{Char: 1}, api.Cell{Heat: 8}, api.Burn{Blue: 1, Burnt: 1}, false},
		"water boils at no heat":     {func(f *api.Fire) { f.Boil = 0 }, api.Cell{Water: 2, Heat: 19}, api.Cell{Water: 1, Heat: 9}, api.Burn{White: 1}, false},
		"water boils for one":        {func(f *api.Fire) { f.Latent = 1 }, api.Cell{Water: 9, Heat: 105}, api.Cell{Water: 4, Heat: 100}, api.Burn{White: 5}, false},
		"half of the heat is lost":   {func(f *api.Fire) { f.Loss = 2 }, api.Cell{Heat: 99}, api.Cell{Heat: 50}, api.Burn{Lost: 49}, false},
		"nothing is lost of so much": {func(f *api.Fire) { f.Loss = 100 }, api.Cell{Heat: 99}, api.Cell{Heat: 99}, api.Burn{}, false},
		"lost of what has been won":  {func(f *api.Fire) { f.Loss = 100 }, char, api.Cell{Ash: 5, Heat: 792}, api.Burn{Blue: 45, Burnt: 50, Lost: 8}, false},
	} {
		f := chapterLaws()
		f.Loss = 1000000
		x.change(&f)
		m := stepped(t, f, oneCell(x.before, 50), []bool{true})
		if m.Clamp.Cells[0] != x.after || m.Burn != x.burn || (len(m.Flames) > 0) != x.flames {
			t.Error(name, m)
		}
	}
}

func TestHeatFlows(t *testing.T) {
	for name, x := range map[string]struct {
		wide, spread  int
		before, after []int
	}{
		"from the hotter one":   {2, 8, []int{800, 0}, []int{700, 100}},
		"from the second one":   {2, 8, []int{0, 800}, []int{100, 700}},
		"rounded down":          {2, 8, []int{15, 0}, []int{14, 1}},
		"rounded down for both": {2, 8, []int{0, 15}, []int{1, 14}},
		"too little":            {2, 8, []int{100, 107}, []int{100, 107}},
		"all of it at once":     {3, 8, []int{800, 0, 800}, []int{700, 200, 700}},
		"through a cell":        {3, 5, []int{1000, 500, 0}, []int{900, 500, 100}},
		"from course to course": {1, 8, []int{800, 0, 8}, []int{700, 101, 7}},
		"not across":            {2, 8, []int{800, 0, 0, 0}, []int{600, 100, 100, 0}},
		"not round the edge":    {3, 5, []int{0, 0, 1000, 0, 0, 0}, []int{0, 200, 600, 0, 0, 200}},
		"to four neighbors":     {3, 5, []int{0, 0, 0, 0, 100, 0, 0, 0, 0}, []int{0, 20, 0, 20, 20, 20, 0, 20, 0}},
		"the greatest heat":     {2, 5, []int{api.ClampHeat, 0}, []int{800000000000, 200000000000}},
	} {
		f := chapterLaws()
		f.Spread, f.Loss = x.spread, 1000000
		c := empty(x.wide, len(x.before)/x.wide)
		for i := range c.Cells {
			c.Cells[i].Heat = x.before[i]
		}
		m := stepped(t, f, c, nil)
		for i, y := range m.Clamp.Cells {
			// The greatest heat is the only one of which something is lost.
			if want := x.after[i] - x.after[i]/f.Loss; y != (api.Cell{Heat: want}) {
				t.Error(name, i, m, want)
			}
		}
	}
}

func TestOnlyBorderCellsLose(t *testing.T) {
	for wide := 1; wide <= api.ClampWide; wide++ {
		for high := 1; high <= api.ClampHigh; high++ {
			c := empty(wide, high)
			for i := range c.Cells {
				c.Cells[i].Heat = 1000
			}
			m := stepped(t, chapterLaws(), c, nil)
			for i, x := range m.Clamp.Cells {
				want := 900
				if column, course := i%wide, i/wide; column > 0 && column < wide-1 && course > 0 && course < high-1 {
					want = 1000
				}
				if x.Heat != want {
					t.Error(wide, high, i, x)
				}
			}
		}
	}
}

func TestColors(t *testing.T) {
	f := chapterLaws()
	f.Loss, f.Cinder = 1000000, 1000
	for name, x := range map[string]struct {
		cell api.Cell
		want api.Color
	}{
		"nothing":           {api.Cell{Wood: 50, Heat: 299}, api.ColorNone},
		"only white":        {api.Cell{Water: 1, Heat: 110}, white},
		"only yellow":       {api.Cell{Wood: 1, Heat: 300}, yellow},
		"only blue":         {api.Cell{Char: 1, Heat: 400}, blue},
		"white as yellow":   {api.Cell{Wood: 20, Water: 14, Heat: 440}, white},
		"less white":        {api.Cell{Wood: 20, Water: 13, Heat: 440}, yellow},
		"white as blue":     {api.Cell{Water: 7, Char: 7, Heat: 470}, white},
		"less white, again": {api.Cell{Water: 7, Char: 8, Heat: 470}, blue},
		"yellow as blue":    {api.Cell{Wood: 20, Char: 8, Heat: 400}, yellow},
		"less yellow":       {api.Cell{Wood: 20, Char: 9, Heat: 400}, blue},
		"all three":         {api.Cell{Wood: 20, Water: 14, Char: 8, Heat: 540}, white},
		"most yellow":       {api.Cell{Wood: 20, Water: 13, Char: 1, Heat: 540}, yellow},
	} {
		c := oneCell(x.cell, 30)
		if m := stepped(t, f, c, []bool{true}); !slices.Equal(m.Colors, []api.Color{x.want}) {
			t.Error(name, m)
		}
		if m := stepped(t, f, c, []bool{false}); !slices.Equal(m.Colors, []api.Color{api.ColorNone}) {
			t.Error(name, "without an open vent:", m)
		}
	}
	// Smoke of all cells goes together: 20 yellow in the first course against 6 and 15 white ones.
	f.Yield, f.Spread = 0, 1000
	c := empty(1, 3, api.Vent{})
	c.Cells = []api.Cell{{Wood: 20, Heat: 300}, {Water: 6, Heat: 200}, {Water: 15, Heat: 300}}
	if m := stepped(t, f, c, []bool{true}); m.Burn.White != 21 || m.Burn.Yellow != 20 || m.Colors[0] != white {
		t.Error(m)
	}
}

func TestSmokeLeavesThroughTheNearestVent(t *testing.T) {
	f := chapterLaws()
	f.Spread = 1000
	vents := []api.Vent{{Cell: 0}, {Cell: 4, Draft: 1}, {Cell: 4, Draft: 2}, {Cell: 9, Draft: 1000}}
	for _, x := range []struct {
		cell int
		open []bool
		want int
	}{
		{0, []bool{true, true, true, true}, 0},
		{1, []bool{true, true, true, true}, 0},
		{2, []bool{true, true, true, true}, 0},
		{2, []bool{false, true, true, true}, 1},
		{3, []bool{true, true, true, true}, 1},
		{3, []bool{true, false, true, true}, 2},
		{4, []bool{true, true, true, false}, 1},
		{4, []bool{true, false, false, true}, 3},
		{5, []bool{true, true, true, true}, 0},
		{7, []bool{true, true, true, true}, 3},
		{6, []bool{true, true, true, true}, 0},
		{6, []bool{false, true, true, true}, 3},
		{8, []bool{true, true, true, true}, 3},
		{8, []bool{true, true, true, false}, 1},
		{9, []bool{true, false, false, false}, 0},
		{9, []bool{false, false, false, false}, -1},
	} {
		c := empty(5, 2, vents...)
		c.Cells[x.cell] = api.Cell{Water: 3, Heat: 150}
		want := make([]api.Color, len(vents))
		if x.want >= 0 {
			want[x.want] = white
		}
		if m := stepped(t, f, c, x.open); m.Burn.White != 3 || !slices.Equal(m.Colors, want) {
			t.Error(x, m)
		}
	}
	// What leaves through one vent does not color another one.
	c := empty(6, 1, api.Vent{Cell: 5}, api.Vent{Cell: 0}, api.Vent{Cell: 3})
	c.Cells[0], c.Cells[1], c.Cells[5] = api.Cell{Water: 1, Heat: 150}, api.Cell{Wood: 50, Heat: 300}, api.Cell{Water: 20, Heat: 300}
	f.Coke = 250
	if m := stepped(t, f, c, always(true, 3)); !slices.Equal(m.Colors, []api.Color{white, yellow, api.ColorNone}) {
		t.Error(m)
	}
}

func TestFlamesComeInOrder(t *testing.T) {
	f := chapterLaws()
	c := empty(3, 2, api.Vent{Cell: 5, Draft: 65})
	for i := range c.Cells {
		c.Cells[i] = api.Cell{Wood: 50, Heat: 350}
	}
	c.Cells[4].Water = 50
	if m := stepped(t, f, c, []bool{true}); !slices.Equal(m.Flames, []int{1, 2, 3, 5}) {
		t.Error(m)
	}
}

// middle returns a clamp of nine cells with so much heat, of which the one in the middle has some char, with a vent of the draft 1 above it.
func middle(heat, char int) api.Clamp {
	c := empty(3, 3, api.Vent{Cell: 1, Draft: 1})
	for i := range c.Cells {
		c.Cells[i].Heat = heat
	}
	c.Cells[4].Char = char
	return c
}

func TestStepsThatGetTooHot(t *testing.T) {
	f := chapterLaws()
	f.Resist = 0
	for _, x := range []struct {
		heat, char, calor int
		want              api.Errno
	}{
		{api.ClampHeat, 0, 1, api.OK},
		{api.ClampHeat, 1, 0, api.OK},
		{api.ClampHeat, 1, 1, api.ErrLong},
		{api.ClampHeat - 1, 1, 1, api.OK},
		{api.ClampHeat - 1, 1, 2, api.ErrLong},
		{api.ClampHeat - 1000, 1, 1000, api.OK},
	} {
		f.Calor = x.calor
		c := middle(x.heat, x.char)
		m, err := clamp.Step(f, c, []bool{true})
		if err != x.want || err == api.OK && m.Clamp.Cells[4].Heat != x.heat+x.char*x.calor || err != api.OK && !sameMoment(m, api.Moment{}) {
			t.Error(x, m, err)
		}
		if m, err := clamp.Step(f, c, []bool{false}); err != api.OK || m.Clamp.Cells[4].Heat != x.heat {
			t.Error(x, m, err)
		}
	}
}

func TestHeatIsTooGreatOnlyAfterTheStep(t *testing.T) {
	f := chapterLaws()
	f.Rate, f.Yield, f.Gas, f.Calor, f.Loss = 1000, 0, 1, 1000, 1000000
	for _, x := range []struct {
		wood int
		want api.Errno
	}{{0, api.OK}, {1, api.OK}, {2, api.ErrLong}} {
		// Char wins 1000000; a gram of gas, one more, makes up for what is lost.
		c := oneCell(api.Cell{Wood: x.wood, Char: 5000, Heat: api.ClampHeat}, 1000)
		m, err := clamp.Step(f, c, []bool{true})
		if err != x.want || err == api.OK && (m.Clamp.Cells[0].Heat != api.ClampHeat-1+x.wood || m.Burn.Lost != 1000001) || err != api.OK && !sameMoment(m, api.Moment{}) {
			t.Error(x, m, err)
		}
	}
}

// P6.2
func TestStepsAgainstTheChapter(t *testing.T) {
	r := rand.New(rand.NewSource(3))
	flames, colors := 0, map[api.Color]int{}
	for range 20000 {
		f, c := randomFire(r), randomClamp(r)
		open := randomOpen(r, len(c.Vents))
		m, want := stepped(t, f, c, open), stepOf(f, c, open)
		if !sameMoment(m, want) {
			t.Fatal(f, c, open, m, want)
		}
		for _, color := range m.Colors {
			colors[color]++
		}
		flames += min(1, len(m.Flames))
	}
	if flames < 1000 || colors[api.ColorNone] < 1000 || colors[white] < 1000 || colors[yellow] < 1000 || colors[blue] < 1000 {
		t.Error("the random steps are not of all kinds:", flames, colors)
	}
}

// balances checks that of what has burnt nothing is lost.
func balances(t *testing.T, f api.Fire, before, after api.Clamp, b api.Burn) {
	t.Helper()
	x, y := weighed(t, before), weighed(t, after)
	if x.Wood+x.Water+x.Char+x.Ash != y.Wood+y.Water+y.Char+y.Ash+b.White+b.Yellow+b.Blue {
		t.Fatal("grams:", f, before, after, b)
	}
	if y.Heat != x.Heat-f.Latent*b.White+f.Gas*b.Flamed+f.Calor*b.Burnt-b.Lost {
		t.Fatal("heat:", f, before, after, b)
	}
	for i, y := range after.Cells {
		if x := before.Cells[i]; y.Wood > x.Wood || y.Water > x.Water || y.Ash < x.Ash {
			t.Fatal("cell:", f, before, after, i)
		}
	}
}

// P6.3, for steps
func TestStepsBalance(t *testing.T) {
	r := rand.New(rand.NewSource(4))
	for range 5000 {
		f, c := randomFire(r), randomClamp(r)
		m := stepped(t, f, c, randomOpen(r, len(c.Vents)))
		balances(t, f, c, m.Clamp, m.Burn)
		if !slices.Equal(m.Clamp.Vents, c.Vents) || clamp.Check(f, m.Clamp) != api.OK {
			t.Fatal(f, c, m)
		}
	}
}

func TestGreatStepsAreAsTheChapterSays(t *testing.T) {
	r := rand.New(rand.NewSource(5))
	refused := 0
	for range 3000 {
		f := api.Fire{Latent: 1000, Rate: 1000, Yield: r.Intn(101), Flame: 1, Gas: 1000, Calor: 1000, Cinder: 1 + r.Intn(1000), Spread: 5 + r.Intn(996), Loss: 2 + r.Intn(999999), Resist: r.Intn(100)}
		c := empty(api.ClampWide, api.ClampHigh, api.Vent{Cell: 3, Draft: 1000}, api.Vent{Cell: 30, Draft: 900})
		for i := range c.Cells {
			c.Cells[i] = api.Cell{Wood: r.Intn(1 + api.ClampMass/4), Water: sometimes(r, 1+api.ClampMass/4), Char: r.Intn(1 + api.ClampMass/4), Ash: r.Intn(1 + api.ClampMass/4), Heat: api.ClampHeat - sometimes(r, 1000000)}
		}
		open := []bool{r.Intn(2) == 0, r.Intn(2) == 0}
		want := stepOf(f, c, open)
		isTooHot := slices.ContainsFunc(want.Clamp.Cells, func(x api.Cell) bool { return x.Heat > api.ClampHeat })
		m, err := clamp.Step(f, c, open)
		if isTooHot {
			refused++
			want = api.Moment{}
		}
		if (err == api.ErrLong) != isTooHot || !isTooHot && err != api.OK || !sameMoment(m, want) {
			t.Fatal(f, c, open, m, err, want)
		}
		if !isTooHot {
			balances(t, f, c, m.Clamp, m.Burn)
		}
	}
	if refused < 100 || refused > 2900 {
		t.Error("so many of the steps got too hot:", refused)
	}
}
