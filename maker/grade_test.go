package maker_test

import (
	"math"
	"math/rand"
	"slices"
	"testing"

	"greenhew/api"
	"greenhew/maker"
)

func TestGradesOfARod(t *testing.T) {
	rod := chapterRod()
	for name, c := range map[string]struct {
		grade api.Grade
		is    bool
	}{
		"all just so":  {api.Grade{Length: 1000, Least: 100, Most: 100, Bend: 10}, true},
		"all of it":    {api.Grade{Length: 0, Least: 0, Most: 1000, Bend: 100}, true},
		"too short":    {api.Grade{Length: 1001, Least: 100, Most: 100, Bend: 10}, false},
		"too thin":     {api.Grade{Length: 1000, Least: 101, Most: 101, Bend: 10}, false},
		"too thick":    {api.Grade{Length: 1000, Least: 99, Most: 99, Bend: 10}, false},
		"the tip only": {api.Grade{Length: 1000, Least: 50, Most: 50, Bend: 10}, false},
		"too bent":     {api.Grade{Length: 1000, Least: 100, Most: 100, Bend: 9}, false},
		"the least":    {api.Grade{}, false},
	} {
		want := -1
		if c.is {
			want = 0
		}
		if l, err := maker.Sort([]api.Rod{rod}, []api.Grade{c.grade}); err != api.OK || !slices.Equal(l, []int{want}) {
			t.Error(name, l, err)
		}
	}
}

func TestTheFirstGradeOfARod(t *testing.T) {
	long, any := api.Grade{Length: 900, Most: 1000, Bend: 100}, api.Grade{Most: 1000, Bend: 100}
	rods := []api.Rod{chapterRod(), pole(899), pole(900), {Length: 1, Butt: 1, Tip: 1, Bend: 100}}
	for _, c := range []struct {
		grades []api.Grade
		want   []int
	}{
		{nil, []int{-1, -1, -1, -1}},
		{[]api.Grade{long}, []int{0, -1, 0, -1}},
		{[]api.Grade{long, any}, []int{0, 1, 0, 1}},
		{[]api.Grade{any, long}, []int{0, 0, 0, 0}},
		{[]api.Grade{{}, long, long, any, any}, []int{1, 3, 1, 3}},
	} {
		if l, err := maker.Sort(rods, c.grades); err != api.OK || !slices.Equal(l, c.want) {
			t.Error(c.grades, l, err)
		}
	}
	if l, err := maker.Sort(nil, []api.Grade{any}); err != api.OK || len(l) != 0 {
		t.Error(l, err)
	}
}

func TestGradesAgainstTheChapter(t *testing.T) {
	r := rand.New(rand.NewSource(4))
	graded := 0
	for range 2000 {
		rods := randomRods(r, r.Intn(5), 1, 30)
		var grades []api.Grade
		for range r.Intn(6) {
			a, b := r.Intn(13), r.Intn(13)
			grades = append(grades, api.Grade{Length: r.Intn(31), Least: min(a, b), Most: max(a, b), Bend: r.Intn(4)})
		}
		var want []int
		for _, rod := range rods {
			first := -1
			for i, g := range grades {
				if first < 0 && rod.Length >= g.Length && g.Least <= rod.Butt && rod.Butt <= g.Most && rod.Bend <= g.Bend {
					first = i
				}
			}
			want = append(want, first)
			graded += min(first, 0) + 1
		}
		if l, err := maker.Sort(rods, grades); err != api.OK || !slices.Equal(l, want) {
			t.Fatal(rods, grades, l, err, want)
		}
	}
	if graded < 500 {
		t.Error("so few rods are of a grade:", graded)
	}
}

func TestGradesAtTheirLimits(t *testing.T) {
	grades := slices.Repeat([]api.Grade{{Length: 10000, Least: 1000, Most: 1000}}, api.MakeGrades)
	grades[api.MakeGrades-1] = api.Grade{Length: 10000, Most: 1000, Bend: 100}
	rods := slices.Repeat([]api.Rod{{Length: 10000, Butt: 1000, Tip: 1, Bend: 100}}, api.MakeStock)
	l, err := maker.Sort(rods, grades)
	if err != api.OK || !slices.Equal(l, slices.Repeat([]int{api.MakeGrades - 1}, api.MakeStock)) {
		t.Error(l, err)
	}
	if l, err := maker.Sort(append(rods, rods[0]), grades); err != api.ErrArg || len(l) != 0 {
		t.Error("a rod too many:", len(l), err)
	}
	if l, err := maker.Sort(rods, append(grades, grades[0])); err != api.ErrArg || len(l) != 0 {
		t.Error("a grade too many:", len(l), err)
	}
}

func TestGradesThatAreNone(t *testing.T) {
	for _, g := range []api.Grade{
		{Length: -1, Most: 1000},
		{Length: 10001, Most: 1000},
		{Least: -1, Most: 1000},
		{Least: 2, Most: 1},
		{Most: 1001},
		{Most: -1},
		{Least: -1, Most: -1},
		{Least: 1001, Most: 1001},
		{Most: 1000, Bend: -1},
		{Most: 1000, Bend: 101},
		{Length: math.MinInt, Least: math.MinInt, Most: math.MaxInt, Bend: math.MinInt},
		{Most: math.MaxInt},
	} {
		for _, rods := range [][]api.Rod{nil, {chapterRod()}} {
			if l, err := maker.Sort(rods, []api.Grade{{Most: 1000, Bend: 100}, g}); err != api.ErrArg || len(l) != 0 {
				t.Error(g, l, err)
			}
		}
	}
}
