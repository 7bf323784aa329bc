package clamp_test

import (
	"math"
	"math/rand"
	"slices"
	"testing"

	"greenhew/api"
	"greenhew/clamp"
)

// runOf makes a run step by step, as the chapter says.
func runOf(f api.Fire, c api.Clamp, plan [][]bool) api.Watch {
	w := api.Watch{Clamp: copyOf(c), Flamed: -1}
	for i, open := range plan {
		m := stepOf(f, w.Clamp, open)
		w.Clamp = m.Clamp
		w.Burn = added(w.Burn, m.Burn)
		w.Colors = append(w.Colors, m.Colors)
		if w.Flamed < 0 && m.Burn.Flamed > 0 {
			w.Flamed = i
		}
	}
	return w
}

func added(a, b api.Burn) api.Burn {
	return api.Burn{White: a.White + b.White, Yellow: a.Yellow + b.Yellow, Blue: a.Blue + b.Blue, Flamed: a.Flamed + b.Flamed, Burnt: a.Burnt + b.Burnt, Lost: a.Lost + b.Lost}
}

func TestRunOfTheChapter(t *testing.T) {
	f, c := chapterLaws(), chapterClamp(60)
	first := stepped(t, f, c, []bool{false})
	second := stepped(t, f, first.Clamp, []bool{true})
	want := api.Watch{Clamp: second.Clamp, Burn: added(first.Burn, second.Burn), Colors: [][]api.Color{{api.ColorNone}, {blue}}, Flamed: 1}
	if w, err := clamp.Run(f, c, [][]bool{{false}, {true}}); err != api.OK || !sameWatch(w, want) {
		t.Error(w, err, want)
	}
}

func TestRunsWithoutSteps(t *testing.T) {
	for _, plan := range [][][]bool{nil, {}} {
		want := api.Watch{Clamp: chapterClamp(60), Flamed: -1}
		if w, err := clamp.Run(chapterLaws(), chapterClamp(60), plan); err != api.OK || !sameWatch(w, want) {
			t.Error(w, err)
		}
	}
}

func TestWhenRunsFlame(t *testing.T) {
	shut, open := []bool{false}, []bool{true}
	for _, x := range []struct {
		plan [][]bool
		want int
	}{
		{[][]bool{shut}, -1},
		{[][]bool{shut, shut, shut}, -1},
		{[][]bool{open}, 0},
		{[][]bool{open, open}, 0},
		{[][]bool{open, shut}, 0},
		{[][]bool{shut, open, open}, 1},
		{[][]bool{shut, shut, open, open}, 2},
		{[][]bool{shut, shut, shut, open}, -1},
	} {
		// There is wood for three steps.
		if w := ran(t, chapterLaws(), oneCell(api.Cell{Wood: 60, Heat: 5000}, 60), x.plan); w.Flamed != x.want || len(w.Colors) != len(x.plan) {
			t.Error(x, w)
		}
	}
}

func TestTheMostSteps(t *testing.T) {
	f, c := chapterLaws(), oneCell(api.Cell{Heat: 1000})
	w, err := clamp.Run(f, c, make([][]bool, api.ClampSteps))
	if err != api.OK || len(w.Colors) != api.ClampSteps || w.Flamed != -1 || w.Clamp.Cells[0].Heat != 9 || w.Burn.Lost != 991 {
		t.Error(w, err)
	}
	for _, steps := range []int{api.ClampSteps + 1, 2 * api.ClampSteps} {
		if w, err := clamp.Run(f, c, make([][]bool, steps)); err != api.ErrLong || !sameWatch(w, api.Watch{}) {
			t.Error(steps, w, err)
		}
	}
}

// winning returns laws, and a clamp with so much wood that wins twice as much heat as it loses when its vent is open: the second step is too hot while there is still wood.
func winning(wood int) (api.Fire, api.Clamp) {
	f := chapterLaws()
	f.Rate, f.Yield, f.Gas, f.Calor, f.Loss = 1000, 0, 1000, 1000, 1000000
	return f, oneCell(api.Cell{Wood: wood, Char: 10000, Heat: api.ClampHeat - 1500000}, 1000)
}

func TestErrorsOfRunsInTheirOrder(t *testing.T) {
	f, hot := winning(5000)
	long := make([][]bool, api.ClampSteps+1)
	for name, x := range map[string]struct {
		f    api.Fire
		c    api.Clamp
		plan [][]bool
		want api.Errno
	}{
		"too long, no laws":           {api.Fire{}, hot, long, api.ErrLong},
		"too long, no clamp":          {f, api.Clamp{}, long, api.ErrLong},
		"too long, no vents":          {f, hot, long, api.ErrLong},
		"too hot":                     {f, hot, [][]bool{{true}, {true}}, api.ErrLong},
		"too hot in the fourth step":  {f, hot, [][]bool{{true}, {false}, {true}, {true}}, api.ErrLong},
		"not yet too hot":             {f, hot, [][]bool{{true}}, api.OK},
		"not too hot while shut":      {f, hot, [][]bool{{false}, {true}, {false}, {true}, {false}}, api.OK},
		"too hot, and no vents after": {f, hot, [][]bool{{true}, {true}, nil}, api.ErrArg},
		"too hot, and too many":       {f, hot, [][]bool{{true}, {true, true}}, api.ErrArg},
		"no laws":                     {api.Fire{}, hot, [][]bool{{true}}, api.ErrArg},
	} {
		w, err := clamp.Run(x.f, x.c, x.plan)
		if err != x.want || err != api.OK && !sameWatch(w, api.Watch{}) {
			t.Error(name, w, err)
		}
	}
}

// P6.4: A run is what its steps are; and its beginning, and then its rest.
func TestRunsAgainstTheChapter(t *testing.T) {
	r := rand.New(rand.NewSource(6))
	flamed := map[int]int{}
	for range 2000 {
		f, c := randomFire(r), randomClamp(r)
		plan := randomPlan(r, len(c.Vents), r.Intn(12))
		w, want := ran(t, f, c, plan), runOf(f, c, plan)
		if !sameWatch(w, want) {
			t.Fatal(f, c, plan, w, want)
		}
		balances(t, f, c, w.Clamp, w.Burn) // P6.3, for runs
		flamed[w.Flamed]++
		at := r.Intn(len(plan) + 1)
		first := ran(t, f, c, plan[:at])
		rest := ran(t, f, first.Clamp, plan[at:])
		both := api.Watch{Clamp: rest.Clamp, Burn: added(first.Burn, rest.Burn), Colors: append(first.Colors, rest.Colors...), Flamed: first.Flamed}
		if first.Flamed < 0 && rest.Flamed >= 0 {
			both.Flamed = at + rest.Flamed
		}
		if !sameWatch(w, both) {
			t.Fatal(f, c, plan, at, w, both)
		}
	}
	if flamed[-1] < 200 || flamed[0] < 200 || flamed[1] < 50 || flamed[2] < 10 {
		t.Error("the random runs are not of all kinds:", flamed)
	}
}

func TestUntilOfTheChapter(t *testing.T) {
	c := chapterClamp(45)
	c.Cells[0].Heat, c.Cells[1].Heat = 5000, 5000
	for most, want := range []api.Errno{api.ErrNone, api.ErrNone, api.ErrNone, api.OK, api.OK} {
		n, err := clamp.Until(chapterLaws(), c, []bool{false}, most)
		if err != want || err == api.OK && n != 3 || err != api.OK && n != 0 {
			t.Error(most, n, err)
		}
	}
	if n, err := clamp.Until(chapterLaws(), c, []bool{false}, 10); err != api.OK || n != 3 {
		t.Error(n, err)
	}
}

func TestUntilAtItsLimits(t *testing.T) {
	f, charred := chapterLaws(), oneCell(api.Cell{Char: 5, Water: 7, Heat: 1000}, 45)
	for _, most := range []int{0, 1, api.ClampSteps} {
		if n, err := clamp.Until(f, charred, []bool{true}, most); err != api.OK || n != 0 {
			t.Error("without wood:", most, n, err)
		}
	}
	for _, most := range []int{-1, api.ClampSteps + 1, math.MinInt, math.MaxInt} {
		for _, c := range []api.Clamp{charred, chapterClamp(45)} {
			if n, err := clamp.Until(f, c, []bool{true}, most); err != api.ErrArg || n != 0 {
				t.Error(most, n, err)
			}
		}
	}
	// Of the greatest heat, so little is lost that a gram turns in each step.
	f.Rate, f.Loss = 1, 1000000
	for _, x := range []struct {
		wood int
		want api.Errno
	}{{api.ClampSteps, api.OK}, {api.ClampSteps + 1, api.ErrNone}} {
		n, err := clamp.Until(f, oneCell(api.Cell{Wood: x.wood, Heat: api.ClampHeat}, 0), []bool{true}, api.ClampSteps)
		if err != x.want || err == api.OK && n != x.wood || err != api.OK && n != 0 {
			t.Error(x, n, err)
		}
	}
	// Wood that gets cold stays.
	if n, err := clamp.Until(chapterLaws(), chapterClamp(45), []bool{false}, api.ClampSteps); err != api.ErrNone || n != 0 {
		t.Error(n, err)
	}
}

func TestUntilIsTooHot(t *testing.T) {
	for _, x := range []struct {
		wood, most, steps int
		want              api.Errno
	}{
		{5000, 0, 0, api.ErrNone},
		{5000, 1, 0, api.ErrNone},
		{5000, 2, 0, api.ErrLong},
		{5000, 9, 0, api.ErrLong},
		{1001, 1, 0, api.ErrNone},
		{1000, 1, 1, api.OK},
		{1000, 9, 1, api.OK},
		{0, 9, 0, api.OK},
	} {
		f, c := winning(x.wood)
		if n, err := clamp.Until(f, c, []bool{true}, x.most); err != x.want || n != x.steps {
			t.Error(x, n, err)
		}
	}
}

func TestUntilAgainstRuns(t *testing.T) {
	r := rand.New(rand.NewSource(7))
	steps := map[int]int{}
	for range 1500 {
		f, c := randomFire(r), randomClamp(r)
		for i := range c.Cells {
			c.Cells[i].Heat *= 1 + r.Intn(20)
		}
		open, most := randomOpen(r, len(c.Vents)), r.Intn(12)
		want := -1
		for n := most; n >= 0; n-- {
			w := ran(t, f, c, slices.Repeat([][]bool{open}, n))
			if weighed(t, w.Clamp).Wood > 0 {
				break
			}
			want = n
		}
		n, err := clamp.Until(f, c, open, most)
		if want < 0 && (err != api.ErrNone || n != 0) || want >= 0 && (err != api.OK || n != want) {
			t.Fatal(f, c, open, most, n, err, want)
		}
		steps[want]++
	}
	if steps[-1] < 100 || steps[0] < 50 || steps[2] < 50 || steps[5] < 10 {
		t.Error("the random clamps are not of all kinds:", steps)
	}
}
