package coupe_test

import (
	"math"
	"math/rand"
	"slices"
	"testing"

	"greenhew/api"
	"greenhew/coupe"
)

// eachThirdYear returns a cycle of one coupe that is cut each third year.
func eachThirdYear() api.Cycle {
	return api.Cycle{Coupes: []api.Coupe{{Age: 2, Yields: []int{0, 4, 9}, Least: 2, Most: 2}}, Hands: 1}
}

func TestLastingOfTheChapter(t *testing.T) {
	a, b, e := coupe.Lasting(chapterCycle(), 0)
	if e != api.OK || len(a) != 0 || !slices.Equal(b, []int{1, 2, 0}) {
		t.Error(a, b, e)
	}
	if n, e := coupe.Greatest(chapterCycle()); e != api.OK || n != 0 {
		t.Error(n, e)
	}
	for _, floor := range []int{1, 2, math.MaxInt} {
		if a, b, e := coupe.Lasting(chapterCycle(), floor); e != api.ErrNone || len(a)+len(b) != 0 {
			t.Error(floor, a, b, e)
		}
	}
}

func TestLastingWithABeginning(t *testing.T) {
	c := eachThirdYear()
	if a, b, e := coupe.Lasting(c, 0); e != api.OK || len(a) != 0 || !slices.Equal(b, []int{1, 0, 0}) {
		t.Error(a, b, e)
	}
	// Two coupes of the same age never come to be of the same age again with one hand.
	d := api.Cycle{Coupes: coupesOf(3, 3), Hands: 1}
	d.Coupes[0].Age, d.Coupes[1].Age = 2, 2
	for floor, want := range [][2][]int{{{1}, {2, 0, 0, 1}}, {{1, 2}, {1, 2}}} {
		a, b, e := coupe.Lasting(d, floor)
		if e != api.OK || !slices.Equal(a, want[0]) || !slices.Equal(b, want[1]) {
			t.Error(floor, a, b, e)
		}
		if _ = append(a, 9); !slices.Equal(b, want[1]) {
			t.Error("the beginning and the round share memory")
		}
	}
	if a, b, e := coupe.Lasting(d, 2); e != api.ErrNone || len(a)+len(b) != 0 {
		t.Error(a, b, e)
	}
}

func TestGreatestFloors(t *testing.T) {
	c := api.Cycle{Coupes: coupesOf(1), Hands: 1}
	if n, e := coupe.Greatest(c); e != api.OK || n != 0 {
		t.Error(n, e)
	}
	c.Hands = 0
	if n, e := coupe.Greatest(c); e != api.ErrNone || n != 0 {
		t.Error(n, e)
	}
	// Three and three coupes are cut in turn, for all that there can be.
	d := api.Cycle{Coupes: coupesOf(1, 1, 1, 1, 1, 1), Hands: 6}
	for i := range d.Coupes {
		d.Coupes[i].Age, d.Coupes[i].Yields[1] = i%2, 1000000
	}
	if n, e := coupe.Greatest(d); e != api.OK || n != 3000000 {
		t.Error(n, e)
	}
	if a, b, e := coupe.Lasting(d, 3000000); e != api.OK || len(a) != 0 || !slices.Equal(b, []int{42, 21}) {
		t.Error(a, b, e)
	}
	if _, _, e := coupe.Lasting(d, 3000001); e != api.ErrNone {
		t.Error(e)
	}
}

// lastingAges drops ages from which each choice leads to ages that were dropped, until there are no more of them.
func lastingAges(c api.Cycle, floor int) map[[6]int]bool {
	lasting := map[[6]int]bool{}
	all := allAges(c)
	for _, ages := range all {
		lasting[keyOf(ages)] = true
	}
	for dropped := true; dropped; {
		dropped = false
		for _, ages := range all {
			if !lasting[keyOf(ages)] {
				continue
			}
			on := false
			for _, t := range turns(c, ages, floor) {
				on = on || lasting[keyOf(t.next)]
			}
			if !on {
				lasting[keyOf(ages)], dropped = false, true
			}
		}
	}
	return lasting
}

// lastingPlan returns the first choices of the lasting plan from lasting ages, and the ages before each one.
func lastingPlan(c api.Cycle, floor int, lasting map[[6]int]bool, years int) ([]int, [][]int) {
	var choices []int
	l := [][]int{beginning(c)}
	for range years {
		for _, t := range turns(c, l[len(l)-1], floor) {
			if lasting[keyOf(t.next)] {
				choices, l = append(choices, t.choice), append(l, t.next)
				break
			}
		}
	}
	return choices, l
}

func TestLastingIsAsDefined(t *testing.T) {
	r := rand.New(rand.NewSource(8))
	some, none, beginnings := 0, 0, 0
	for range 1500 {
		c, floor := randomCycle(r, 3), r.Intn(4)
		lasting := lastingAges(c, floor)
		a, b, e := coupe.Lasting(c, floor)
		if !lasting[keyOf(beginning(c))] {
			none++
			if e != api.ErrNone || len(a)+len(b) != 0 {
				t.Fatal(c, floor, a, b, e)
			}
			continue
		}
		some++
		choices, l := lastingPlan(c, floor, lasting, len(a)+len(b))
		if e != api.OK || len(b) == 0 || !slices.Equal(choices, slices.Concat(a, b)) {
			t.Fatal(c, floor, a, b, e, choices)
		}
		// Of all these ages, only the first ones of the round come again, and at its end.
		seen := map[[6]int]int{}
		for year, ages := range l {
			before, again := seen[keyOf(ages)]
			if again != (year == len(l)-1) || again && before != len(a) {
				t.Fatal(c, floor, a, b, l)
			}
			seen[keyOf(ages)] = year
		}
		if len(a) > 0 {
			beginnings++
		}
	}
	if some < 200 || none < 200 || beginnings < 50 {
		t.Error("these cycles say little:", some, none, beginnings)
	}
}

func TestALastingPlanGoesOnForEver(t *testing.T) {
	r := rand.New(rand.NewSource(9))
	for range 1500 {
		c := randomCycle(r, 6)
		floor, e := coupe.Greatest(c)
		if e != api.OK {
			continue
		}
		a, b, e := coupe.Lasting(c, floor)
		if e != api.OK {
			t.Fatal(c, floor, e)
		}
		// A long one is played from ages to ages.
		now := beginning(c)
		for _, choice := range slices.Concat(a, b, b, b) {
			next, yield, e := coupe.Next(c, now, choice)
			if e != api.OK || yield < floor {
				t.Fatal(c, floor, a, b, now, choice, yield, e)
			}
			now = next
		}
		if n := len(a) + len(b); n <= api.CoupeYears {
			p, first, e1 := coupe.Play(c, a)
			q, again, e2 := coupe.Play(at(c, now), b)
			if e1 != api.OK || e2 != api.OK || !slices.Equal(first, again) || !slices.Equal(first, now) || min(leastOf(p), leastOf(q)) < floor {
				t.Fatal(c, floor, a, b, p, q, e1, e2)
			}
		}
	}
}

func TestGreatestIsAsDefined(t *testing.T) {
	r := rand.New(rand.NewSource(10))
	some, none := 0, 0
	for range 700 {
		c := randomCycle(r, 3)
		want := -1
		for floor := 0; floor <= 18 && lastingAges(c, floor)[keyOf(beginning(c))]; floor++ {
			want = floor
		}
		n, e := coupe.Greatest(c)
		if want == -1 && (e != api.ErrNone || n != 0) || want != -1 && (e != api.OK || n != want) {
			t.Fatal(c, n, e, want)
		}
		if want > 0 {
			some++
		} else if want == -1 {
			none++
		}
	}
	if some < 50 || none < 50 {
		t.Error("these cycles say little:", some, none)
	}
}

func sameRank(a, b api.CoupeRank) bool { return a.Rank == b.Rank && slices.Equal(a.Ages, b.Ages) }

func chapterRanks() []api.CoupeRank {
	return []api.CoupeRank{{Ages: []int{0, 1}, Rank: 1}, {Ages: []int{0, 2}, Rank: 1}, {Ages: []int{1, 0}}, {Ages: []int{2, 1}, Rank: 3}, {Ages: []int{3, 0}, Rank: 2}}
}

func TestRanksOfTheChapter(t *testing.T) {
	l, e := coupe.Ranks(chapterCycle(), 1)
	if e != api.OK || !slices.EqualFunc(l, chapterRanks(), sameRank) {
		t.Error(l, e)
	}
	if l, e := coupe.Ranks(chapterCycle(), 0); e != api.ErrState || len(l) != 0 {
		t.Error(l, e)
	}
	l, e = coupe.Ranks(chapterCycle(), math.MaxInt)
	if e != api.OK || !slices.EqualFunc(l, []api.CoupeRank{{Ages: []int{2, 1}}}, sameRank) {
		t.Error(l, e)
	}
}

// ranksOf makes the table of ranks: the greatest numbers of years of all ages that are reached.
func ranksOf(c api.Cycle, floor int) []api.CoupeRank {
	ranks := map[[6]int]int{}
	var l []api.CoupeRank
	var rank func(ages []int) int
	rank = func(ages []int) int {
		if n, ok := ranks[keyOf(ages)]; ok {
			return n
		}
		most := 0
		for _, t := range turns(c, ages, floor) {
			most = max(most, 1+rank(t.next))
		}
		ranks[keyOf(ages)] = most
		l = append(l, api.CoupeRank{Ages: ages, Rank: most})
		return most
	}
	rank(beginning(c))
	slices.SortFunc(l, func(a, b api.CoupeRank) int { return slices.Compare(a.Ages, b.Ages) })
	return l
}

func TestEitherSomethingLastsOrRanksProveThatNothingDoes(t *testing.T) {
	r := rand.New(rand.NewSource(11))
	lasts, ends := 0, 0
	for range 2000 {
		c, floor := randomCycle(r, 4), r.Intn(5)
		_, b, e1 := coupe.Lasting(c, floor)
		l, e2 := coupe.Ranks(c, floor)
		if e1 == api.OK && e2 == api.ErrState && len(b) > 0 && len(l) == 0 {
			lasts++
			continue
		}
		ends++
		if e1 != api.ErrNone || e2 != api.OK || !slices.EqualFunc(l, ranksOf(c, floor), sameRank) {
			t.Fatal(c, floor, b, l, e1, e2)
		}
		if !coupe.Ends(c, floor, l) {
			t.Fatal("the table of Ranks proves that nothing lasts", c, floor, l)
		}
		// The rank of its ages is for how many years there are plans.
		i := slices.IndexFunc(l, func(x api.CoupeRank) bool { return slices.Equal(x.Ages, beginning(c)) })
		years := l[i].Rank
		if years < 6 && (greatestSum(c, years, floor) == -1 || greatestSum(c, years+1, floor) != -1) {
			t.Fatal(c, floor, l)
		}
	}
	if lasts < 200 || ends < 200 {
		t.Error("these cycles say little:", lasts, ends)
	}
}

func TestLastingAndRanksRefuse(t *testing.T) {
	wrong := chapterCycle()
	wrong.Habitats = []api.Habitat{{From: 2, To: 1}}
	for name, x := range map[string]struct {
		c     api.Cycle
		floor int
		want  api.Errno
	}{
		"a negative floor":  {chapterCycle(), -1, api.ErrArg},
		"a very low floor":  {chapterCycle(), math.MinInt, api.ErrArg},
		"floor, and states": {tooManyStates(), -1, api.ErrArg},
		"no cycle":          {wrong, 0, api.ErrArg},
		"states":            {tooManyStates(), 0, api.ErrLong},
	} {
		if a, b, e := coupe.Lasting(x.c, x.floor); e != x.want || len(a)+len(b) != 0 {
			t.Error(name, a, b, e)
		}
		if l, e := coupe.Ranks(x.c, x.floor); e != x.want || len(l) != 0 {
			t.Error(name, l, e)
		}
		if coupe.Ends(x.c, x.floor, chapterRanks()) {
			t.Error(name)
		}
	}
}

func TestEndsOfTheChapter(t *testing.T) {
	c, l := chapterCycle(), chapterRanks()
	if !coupe.Ends(c, 1, l) || !coupe.Ends(c, 2, l) || !coupe.Ends(c, math.MaxInt, l) {
		t.Error("the table proves that nothing lasts")
	}
	for name, no := range map[string]bool{
		"a lower floor":             coupe.Ends(c, 0, l),
		"a negative floor":          coupe.Ends(c, -1, l),
		"without ranks":             coupe.Ends(c, 1, nil),
		"without the last one":      coupe.Ends(c, 1, l[:4]),
		"without the first one":     coupe.Ends(c, 1, l[1:]),
		"without the cycle's ages":  coupe.Ends(at(c, []int{1, 1}), 1, l),
		"of ages that lead nowhere": coupe.Ends(c, math.MaxInt, l[:3]),
	} {
		if no {
			t.Error(name)
		}
	}
	for name, spoil := range map[string]func(l []api.CoupeRank) []api.CoupeRank{
		"turned round":      func(l []api.CoupeRank) []api.CoupeRank { slices.Reverse(l); return l },
		"twice the same":    func(l []api.CoupeRank) []api.CoupeRank { return slices.Insert(l, 1, l[0]) },
		"rank -1":           func(l []api.CoupeRank) []api.CoupeRank { l[2].Rank = -1; return l },
		"the same rank":     func(l []api.CoupeRank) []api.CoupeRank { l[3].Rank = 2; return l },
		"a greater rank":    func(l []api.CoupeRank) []api.CoupeRank { l[4].Rank = 4; return l },
		"an age too few":    func(l []api.CoupeRank) []api.CoupeRank { return append(l, api.CoupeRank{Ages: []int{3}}) },
		"an age too many":   func(l []api.CoupeRank) []api.CoupeRank { return append(l, api.CoupeRank{Ages: []int{3, 1, 0}}) },
		"an age above most": func(l []api.CoupeRank) []api.CoupeRank { return append(l, api.CoupeRank{Ages: []int{4, 0}, Rank: 9}) },
		"an age far above":  func(l []api.CoupeRank) []api.CoupeRank { return append(l, api.CoupeRank{Ages: []int{256 + 3, 2}}) },
		"an age -1": func(l []api.CoupeRank) []api.CoupeRank {
			return slices.Insert(l, 0, api.CoupeRank{Ages: []int{-1, 0}, Rank: 9})
		},
		"of no ages": func(l []api.CoupeRank) []api.CoupeRank { return slices.Insert(l, 0, api.CoupeRank{}) },
	} {
		if m := spoil(chapterRanks()); coupe.Ends(c, 1, m) {
			t.Error(name, m)
		}
	}
	for i := range l {
		l[i].Rank += math.MaxInt - 3
	}
	if !coupe.Ends(c, 1, l) {
		t.Error("great ranks")
	}
	// Also ranks of ages that are not reached have to be right.
	l = slices.Insert(l, 0, api.CoupeRank{Ages: []int{0, 0}})
	if !coupe.Ends(c, 1, l) || coupe.Ends(c, 0, l) {
		t.Error("a rank that is not needed")
	}
	l = slices.Insert(l, 5, api.CoupeRank{Ages: []int{3, 1}, Rank: 2})
	if coupe.Ends(c, 1, l) {
		t.Error("a rank that is not needed, and not right")
	}
}

func TestEndsOfAFloorThatIsNone(t *testing.T) {
	c := chapterCycle()
	c.Hands = 0
	l, e := coupe.Ranks(c, 0)
	if e != api.OK || !coupe.Ends(c, 0, l) || coupe.Ends(c, -1, l) || coupe.Ends(c, math.MinInt, l) {
		t.Error(l, e)
	}
}

func TestLongTablesOfRanks(t *testing.T) {
	c := api.Cycle{Coupes: coupesOf(39, 24, 19)}
	var l []api.CoupeRank
	for _, ages := range allAges(c) {
		l = append(l, api.CoupeRank{Ages: ages, Rank: min(39-ages[0], 24-ages[1], 19-ages[2])})
	}
	if len(l) != 20000 || !coupe.Ends(c, 0, l) {
		t.Error("a table of ranks of all ages")
	}
	if coupe.Ends(c, 0, append(l, make([]api.CoupeRank, 60*20000+1)...)) {
		t.Error("a table that is too long")
	}
}

// endsOf follows the definition word for word.
func endsOf(c api.Cycle, floor int, l []api.CoupeRank) bool {
	find := func(ages []int) int {
		return slices.IndexFunc(l, func(x api.CoupeRank) bool { return slices.Equal(x.Ages, ages) })
	}
	for i, x := range l {
		if x.Rank < 0 || i > 0 && slices.Compare(l[i-1].Ages, x.Ages) != -1 {
			return false
		}
		for _, t := range turns(c, x.Ages, floor) {
			if k := find(t.next); k == -1 || l[k].Rank >= x.Rank {
				return false
			}
		}
	}
	return find(beginning(c)) != -1
}

func TestWhatRanksProveIsRight(t *testing.T) {
	r := rand.New(rand.NewSource(12))
	yes, no := 0, 0
	for range 20000 {
		c, floor := randomCycle(r, 2), r.Intn(4)
		l, e := coupe.Ranks(c, floor)
		if e != api.OK {
			l = []api.CoupeRank{{Ages: beginning(c), Rank: 9}}
		}
		for range r.Intn(3) {
			if len(l) == 0 {
				break
			}
			switch i := r.Intn(len(l)); r.Intn(5) {
			case 0:
				l = slices.Delete(l, i, i+1)
			case 1:
				l[i].Rank++
			case 2:
				l[i].Rank--
			case 3:
				k := r.Intn(len(c.Coupes))
				l[i].Ages[k] = r.Intn(c.Coupes[k].Most + 1)
			case 4:
				floor++
			}
		}
		ends := coupe.Ends(c, floor, l)
		if ends != endsOf(c, floor, l) {
			t.Fatal(c, floor, l, ends)
		}
		if !ends {
			no++
			continue
		}
		yes++
		if _, _, e := coupe.Lasting(c, floor); e != api.ErrNone {
			t.Fatal(c, floor, l, e)
		}
	}
	if yes < 5000 || no < 5000 {
		t.Error("these tables say little:", yes, no)
	}
}
