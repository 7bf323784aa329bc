package coupe_test

import (
	"iter"
	"math"
	"math/rand"
	"slices"
	"testing"

	"greenhew/api"
	"greenhew/coupe"
)

// chapterStandards returns the standards of the chapter.
func chapterStandards() api.Standards {
	return api.Standards{Counts: []int{5, 3, 2}, Recruit: 4, Keep: []int{2, 1, 0}, Price: []int{1, 10, 6}}
}

func copyStandards(s api.Standards) api.Standards {
	s.Counts, s.Keep, s.Price = slices.Clone(s.Counts), slices.Clone(s.Keep), slices.Clone(s.Price)
	return s
}

func sameStandards(a, b api.Standards) bool {
	return a.Recruit == b.Recruit && slices.Equal(a.Counts, b.Counts) && slices.Equal(a.Keep, b.Keep) && slices.Equal(a.Price, b.Price)
}

func samePlan(a, b [][]int) bool { return slices.EqualFunc(a, b, slices.Equal) }

func TestTimberOfTheChapter(t *testing.T) {
	if f, n, e := coupe.Timber(chapterStandards(), 2); e != api.OK || n != 80 || !samePlan(f, [][]int{{0, 2, 2}, {2, 4, 1}}) {
		t.Error(f, n, e)
	}
	if f, n, e := coupe.Timber(chapterStandards(), 0); e != api.OK || n != 0 || len(f) != 0 {
		t.Error(f, n, e)
	}
	if f, n, e := coupe.Timber(chapterStandards(), 1); e != api.OK || n != 35 || !samePlan(f, [][]int{{3, 2, 2}}) {
		t.Error(f, n, e)
	}
}

func TestTimberThatCannotBeKept(t *testing.T) {
	for name, x := range map[string]struct {
		spoil func(s *api.Standards)
		times int
		want  api.Errno
	}{
		"too few":                {func(s *api.Standards) { s.Counts[0] = 1 }, 1, api.ErrNone},
		"too few, but no matter": {func(s *api.Standards) { s.Counts[0] = 1 }, 0, api.OK},
		"too few of the second":  {func(s *api.Standards) { s.Counts[1] = 0 }, 1, api.ErrNone},
		"too few then":           {func(s *api.Standards) { s.Keep[1], s.Counts[1] = 6, 6 }, 2, api.ErrNone},
		"enough for now":         {func(s *api.Standards) { s.Keep[1], s.Counts[1] = 6, 6 }, 1, api.OK},
		"few come":               {func(s *api.Standards) { s.Recruit = 1 }, 2, api.ErrNone},
		"few come, but too late": {func(s *api.Standards) { s.Recruit = 1 }, 1, api.OK},
		// They are enough when they come, but not when they are of the second class.
		"few in the end":       {func(s *api.Standards) { s.Recruit, s.Keep[1], s.Counts[1] = 4, 5, 5 }, 3, api.ErrNone},
		"few beyond the end":   {func(s *api.Standards) { s.Recruit, s.Keep[1], s.Counts[1] = 4, 5, 5 }, 2, api.OK},
		"as many as are to be": {func(s *api.Standards) { s.Recruit, s.Keep[1], s.Counts[1] = 5, 5, 5 }, 30, api.OK},
	} {
		s := chapterStandards()
		x.spoil(&s)
		f, n, e := coupe.Timber(s, x.times)
		if e != x.want || e != api.OK && (len(f) != 0 || n != 0) || e == api.OK && len(f) != x.times {
			t.Error(name, f, n, e)
		}
	}
}

func TestStandardsThatAreNone(t *testing.T) {
	for name, spoil := range map[string]func(s *api.Standards){
		"no classes":    func(s *api.Standards) { *s = api.Standards{} },
		"nine classes":  func(s *api.Standards) { s.Counts, s.Keep, s.Price = make([]int, 9), make([]int, 9), make([]int, 9) },
		"few counts":    func(s *api.Standards) { s.Counts = []int{5, 3} },
		"many counts":   func(s *api.Standards) { s.Counts = []int{5, 3, 2, 0} },
		"few keep":      func(s *api.Standards) { s.Keep = []int{2, 0} },
		"many keep":     func(s *api.Standards) { s.Keep = []int{2, 1, 0, 0} },
		"no prices":     func(s *api.Standards) { s.Price = nil },
		"many prices":   func(s *api.Standards) { s.Price = []int{1, 10, 6, 6} },
		"count -1":      func(s *api.Standards) { s.Counts[2] = -1 },
		"count 10001":   func(s *api.Standards) { s.Counts[2] = 10001 },
		"keep -1":       func(s *api.Standards) { s.Keep[1] = -1 },
		"keep 10001":    func(s *api.Standards) { s.Keep[1] = 10001 },
		"keep at last":  func(s *api.Standards) { s.Keep[2] = 1 },
		"price -1":      func(s *api.Standards) { s.Price[0] = -1 },
		"price 1000001": func(s *api.Standards) { s.Price[0] = 1000001 },
		"recruit -1":    func(s *api.Standards) { s.Recruit = -1 },
		"recruit 10001": func(s *api.Standards) { s.Recruit = 10001 },
	} {
		s := chapterStandards()
		spoil(&s)
		for _, times := range []int{0, 1, -1} {
			if f, n, e := coupe.Timber(s, times); e != api.ErrArg || len(f) != 0 || n != 0 {
				t.Error(name, times, f, n, e)
			}
		}
		if f, n, e := coupe.Timber(s, 31); e != api.ErrLong || len(f) != 0 || n != 0 {
			t.Error(name, f, n, e)
		}
		for _, l := range [][][]int{nil, {{0, 0, 2}}} {
			if n, is := coupe.Worth(s, l); is || n != 0 {
				t.Error(name, n, is)
			}
		}
	}
	for _, x := range []struct {
		times int
		want  api.Errno
	}{{-1, api.ErrArg}, {math.MinInt, api.ErrArg}, {31, api.ErrLong}, {math.MaxInt, api.ErrLong}} {
		if f, n, e := coupe.Timber(chapterStandards(), x.times); e != x.want || len(f) != 0 || n != 0 {
			t.Error(x, f, n, e)
		}
	}
}

func TestStandardsOfOneClass(t *testing.T) {
	s := api.Standards{Counts: []int{7}, Recruit: 2, Keep: []int{0}, Price: []int{0}}
	if f, n, e := coupe.Timber(s, 3); e != api.OK || n != 0 || !samePlan(f, [][]int{{7}, {2}, {2}}) {
		t.Error(f, n, e)
	}
	s.Price[0] = 3
	if n, is := coupe.Worth(s, [][]int{{7}, {2}}); !is || n != 27 {
		t.Error(n, is)
	}
}

func TestTheGreatestStandards(t *testing.T) {
	ten := slices.Repeat([]int{10000}, 8)
	s := api.Standards{Counts: ten, Recruit: 10000, Keep: make([]int, 8), Price: slices.Repeat([]int{1000000}, 8)}
	f, n, e := coupe.Timber(s, 30)
	if e != api.OK || n != 37*10000*1000000 || len(f) != 30 || !slices.Equal(f[0], ten) {
		t.Error(n, e)
	}
	if w, is := coupe.Worth(s, f); !is || w != n {
		t.Error(w, is)
	}
	copy(s.Keep, []int{10000, 10000, 10000, 10000, 10000, 10000, 10000})
	f, n, e = coupe.Timber(s, 30)
	last := []int{0, 0, 0, 0, 0, 0, 0, 10000}
	if e != api.OK || n != 30*10000*1000000 || !samePlan(f, slices.Repeat([][]int{last}, 30)) {
		t.Error(f, n, e)
	}
}

func TestWorth(t *testing.T) {
	s := chapterStandards()
	for _, x := range []struct {
		l    [][]int
		want int
	}{
		{nil, 0}, {[][]int{}, 0}, {[][]int{{3, 2, 2}, {0, 1, 1}}, 51}, {[][]int{{0, 0, 2}}, 12}, {[][]int{{0, 0, 2}, {0, 0, 3}}, 30}, {[][]int{{3, 2, 2}}, 35},
		{[][]int{{0, 2, 2}, {2, 4, 1}}, 80},
		{slices.Concat([][]int{{0, 0, 2}, {0, 0, 3}, {0, 0, 5}}, slices.Repeat([][]int{{0, 0, 4}}, 27)), 12 + 18 + 30 + 27*24},
	} {
		if n, is := coupe.Worth(s, x.l); !is || n != x.want {
			t.Error(x, n, is)
		}
	}
	for _, l := range [][][]int{
		{{4, 2, 2}}, {{3, 3, 2}}, {{0, 0, 1}}, {{0, 0, 3}}, {{0, 4, 2}}, {{6, 0, 2}}, {{-1, 0, 2}}, {{0, -1, 2}}, {{0, 0, -1}},
		{{0, 0}}, {{0, 0, 2, 0}}, {nil}, {{0, 0, 2}, nil}, {{math.MinInt, 0, 2}}, {{math.MaxInt, 0, 2}},
		{{0, 0, 2}, {0, 0, 2}}, {{0, 0, 2}, {3, 0, 3}}, {{3, 0, 2}, {0, 2, 3}},
		slices.Concat([][]int{{0, 0, 2}, {0, 0, 3}, {0, 0, 5}}, slices.Repeat([][]int{{0, 0, 4}}, 28)),
	} {
		if n, is := coupe.Worth(s, l); is || n != 0 {
			t.Error(l, n)
		}
	}
}

// fellings yields all fellings of trees that the duties allow, the lexicographically greatest one first.
func fellings(s api.Standards, trees []int) iter.Seq[[]int] {
	return func(yield func([]int) bool) {
		var on func(felled []int) bool
		on = func(felled []int) bool {
			i := len(felled)
			if i == len(trees) {
				return yield(felled)
			}
			for n := trees[i]; n >= 0; n-- {
				stay := trees[i] - n
				if stay < s.Keep[i] || i == len(trees)-1 && stay > 0 {
					continue
				}
				if !on(append(slices.Clone(felled), n)) {
					return false
				}
			}
			return true
		}
		on(nil)
	}
}

// bestTimber goes through all felling plans, the lexicographically greatest one first.
func bestTimber(s api.Standards, trees []int, times int) ([][]int, int) {
	if times == 0 {
		return nil, 0
	}
	var best [][]int
	most := -1
	for felled := range fellings(s, trees) {
		after, worth := []int{s.Recruit}, 0
		for i, n := range felled {
			worth += n * s.Price[i]
			after = append(after, trees[i]-n)
		}
		l, rest := bestTimber(s, after[:len(trees)], times-1)
		if rest >= 0 && worth+rest > most {
			best, most = append([][]int{felled}, l...), worth+rest
		}
	}
	return best, most
}

func randomStandards(r *rand.Rand) api.Standards {
	s := api.Standards{Recruit: r.Intn(4)}
	for range 1 + r.Intn(4) {
		s.Counts = append(s.Counts, r.Intn(4))
		s.Keep = append(s.Keep, r.Intn(2)*r.Intn(3))
		s.Price = append(s.Price, r.Intn(4))
	}
	s.Keep[len(s.Keep)-1] = 0
	return s
}

func TestNoFellingPlanIsBetter(t *testing.T) {
	r := rand.New(rand.NewSource(13))
	some, none := 0, 0
	for range 1500 {
		s, times := randomStandards(r), r.Intn(4)
		want, most := bestTimber(s, s.Counts, times)
		f, n, e := coupe.Timber(s, times)
		if most == -1 {
			none++
			if e != api.ErrNone || len(f) != 0 || n != 0 {
				t.Fatal(s, times, f, n, e)
			}
			continue
		}
		some++
		if e != api.OK || n != most || !samePlan(f, want) {
			t.Fatal(s, times, f, n, e, want, most)
		}
		if w, is := coupe.Worth(s, f); !is || w != n {
			t.Fatal(s, times, f, n, w, is)
		}
	}
	if some < 500 || none < 200 {
		t.Error("these standards say little:", some, none)
	}
}

func TestWorthIsAsDefined(t *testing.T) {
	r := rand.New(rand.NewSource(14))
	yes, no := 0, 0
	for range 5000 {
		s := randomStandards(r)
		var l [][]int
		trees, want, is := s.Counts, 0, true
		for range r.Intn(3) {
			felled := make([]int, len(trees))
			for i := range felled {
				felled[i] = r.Intn(trees[i] + 1)
			}
			if r.Intn(10) > 0 {
				felled[len(felled)-1] = trees[len(trees)-1]
			}
			allowed := false
			for x := range fellings(s, trees) {
				allowed = allowed || slices.Equal(x, felled)
			}
			is = is && allowed
			l = append(l, felled)
			after := []int{s.Recruit}
			for i, n := range felled {
				want += n * s.Price[i]
				after = append(after, trees[i]-n)
			}
			trees = after[:len(trees)]
		}
		if !is {
			want = 0
			no++
		} else if len(l) > 0 {
			yes++
		}
		if n, ok := coupe.Worth(s, l); ok != is || n != want {
			t.Fatal(s, l, n, ok, want, is)
		}
	}
	if yes < 500 || no < 500 {
		t.Error("these plans say little:", yes, no)
	}
}
