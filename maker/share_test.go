package maker_test

import (
	"math"
	"math/rand"
	"slices"
	"testing"

	"greenhew/api"
	"greenhew/maker"
)

// checkShare checks that a share has a right cut for each rod, and yields at least what is wanted.
func checkShare(t *testing.T, rods []api.Rod, parts []api.Part, kerf int, share [][]api.Piece, wanted tally) {
	t.Helper()
	if len(share) != len(rods) {
		t.Fatal(rods, parts, kerf, "a share for other rods:", share)
	}
	for i, cut := range share {
		if _, ok := rightOf(rods[i], parts, kerf, cut); !ok {
			t.Fatal(rods[i], parts, kerf, "not right:", cut)
		}
	}
	if !tallyOf(share...).atLeast(wanted) {
		t.Fatal(rods, parts, kerf, share, "yields too little:", wanted)
	}
}

func TestSharesOfTheChapter(t *testing.T) {
	r, parts := chapterRod(), chapterParts()
	rods := []api.Rod{r, r}
	many, share, err := maker.Wares(rods, parts, 10, []int{1, 1})
	if err != api.OK || many != 2 {
		t.Error(many, err)
	}
	checkShare(t, rods, parts, 10, share, tally{2, 2})
	set, share, err := maker.Fill([]api.Rod{r, r, r}, parts, 10, []int{0, 2})
	if err != api.OK || !slices.Equal(set, []int{0, 1}) {
		t.Error(set, err)
	}
	checkShare(t, rods, parts, 10, share, tally{0, 2})
	if set, share, err := maker.Fill([]api.Rod{r}, parts, 10, []int{0, 2}); err != api.ErrNone || len(set)+len(share) != 0 {
		t.Error(set, share, err)
	}
}

func TestWares(t *testing.T) {
	parts := []api.Part{anywhere(200, 0), anywhere(300, 0)}
	for name, c := range map[string]struct {
		lengths, takes []int
		want           int
	}{
		"no rods":                       {nil, []int{1, 1}, 0},
		"one ware of one rod":           {[]int{500}, []int{1, 1}, 1},
		"none of a shorter rod":         {[]int{499}, []int{1, 1}, 0},
		"of two rods":                   {[]int{200, 300}, []int{1, 1}, 1},
		"of two rods, the longer first": {[]int{300, 200}, []int{1, 1}, 1},
		"a rod that is of no use":       {[]int{199, 300, 200}, []int{1, 1}, 1},
		"the second part alone":         {[]int{600, 300}, []int{0, 1}, 3},
		"the first part alone":          {[]int{600, 300}, []int{1, 0}, 4},
		"two of one":                    {[]int{700, 700}, []int{2, 1}, 2},
		"as many as can be":             {[]int{1200}, []int{1, 0}, 6},
		"no more than that":             {[]int{10000}, []int{1, 0}, 6},
		"the most of a part":            {[]int{4800}, []int{4, 0}, 6},
		"almost the most":               {[]int{4799}, []int{4, 0}, 5},
		"the most of both":              {[]int{10000, 2000}, []int{4, 4}, 6},
		"almost the most of both":       {[]int{10000, 1999}, []int{4, 4}, 5},
	} {
		var rods []api.Rod
		for _, l := range c.lengths {
			rods = append(rods, pole(l))
		}
		many, share, err := maker.Wares(rods, parts, 0, c.takes)
		if err != api.OK || many != c.want {
			t.Error(name, many, err)
		}
		checkShare(t, rods, parts, 0, share, listed(c.takes).times(many))
	}
}

func TestFillings(t *testing.T) {
	parts := []api.Part{anywhere(200, 0), anywhere(300, 0)}
	for name, c := range map[string]struct {
		lengths, order, want []int
	}{
		"nothing of no rods":           {nil, []int{0, 0}, nil},
		"nothing of rods":              {[]int{500, 600}, []int{0, 0}, nil},
		"one rod":                      {[]int{500}, []int{1, 1}, []int{0}},
		"the shortest rod":             {[]int{700, 500, 600}, []int{1, 1}, []int{1}},
		"the first of those":           {[]int{700, 499, 500, 500}, []int{1, 1}, []int{2}},
		"one long rod for two short":   {[]int{200, 300, 10000}, []int{1, 1}, []int{2}},
		"two rods":                     {[]int{200, 10, 300}, []int{1, 1}, []int{0, 2}},
		"two rods of the least length": {[]int{500, 250, 200, 300}, []int{2, 1}, []int{0, 2}},
		"two rods of the same length":  {[]int{600, 500, 300, 200}, []int{1, 2}, []int{0, 3}},
		"the first two":                {[]int{300, 200, 300, 200}, []int{1, 1}, []int{0, 1}},
		"the first rod of them counts": {[]int{200, 300, 300, 200}, []int{1, 1}, []int{0, 1}},
		"the second rod of them too":   {[]int{200, 10, 300, 300}, []int{1, 1}, []int{0, 2}},
		"all rods":                     {[]int{200, 200, 200, 200, 200, 200}, []int{6, 0}, []int{0, 1, 2, 3, 4, 5}},
		"the greatest order":           {[]int{10, 10000, 10, 2000}, []int{24, 24}, []int{1, 3}},
	} {
		var rods, used []api.Rod
		for _, l := range c.lengths {
			rods = append(rods, pole(l))
		}
		for _, i := range c.want {
			used = append(used, rods[i])
		}
		set, share, err := maker.Fill(rods, parts, 0, c.order)
		if err != api.OK || !slices.Equal(set, c.want) {
			t.Error(name, set, err)
			continue
		}
		checkShare(t, used, parts, 0, share, listed(c.order))
	}
}

func TestOrdersThatCannotBeFilled(t *testing.T) {
	parts := []api.Part{anywhere(200, 0), anywhere(300, 0)}
	for name, c := range map[string]struct {
		lengths, order []int
	}{
		"no rods":              {nil, []int{1, 0}},
		"no rods for the last": {nil, []int{0, 1}},
		"short rods":           {[]int{299, 299, 299, 299, 299, 299}, []int{0, 1}},
		"a bit too little":     {[]int{10000, 1999}, []int{24, 24}},
		"one too many":         {[]int{600, 400}, []int{6, 0}},
	} {
		var rods []api.Rod
		for _, l := range c.lengths {
			rods = append(rods, pole(l))
		}
		if set, share, err := maker.Fill(rods, parts, 0, c.order); err != api.ErrNone || len(set)+len(share) != 0 {
			t.Error(name, set, share, err)
		}
	}
}

// checkWares compares Wares with what shares of the rods yield. It returns how many wares are made.
func checkWares(t *testing.T, rods []api.Rod, yields []map[tally]bool, parts []api.Part, kerf int, takes []int) int {
	t.Helper()
	many, share, err := maker.Wares(rods, parts, kerf, takes)
	if want := mostWares(sums(yields...), listed(takes)); err != api.OK || many != want {
		t.Fatal(rods, parts, kerf, takes, many, err, want)
	}
	checkShare(t, rods, parts, kerf, share, listed(takes).times(many))
	return many
}

// checkFill compares Fill with what shares of the rods yield. It returns how many rods are used, -1 if there is no filling.
func checkFill(t *testing.T, rods []api.Rod, yields []map[tally]bool, parts []api.Part, kerf int, order []int) int {
	t.Helper()
	set, share, err := maker.Fill(rods, parts, kerf, order)
	want, ok := firstFilling(rods, yields, listed(order))
	if !ok {
		if err != api.ErrNone || len(set)+len(share) != 0 {
			t.Fatal(rods, parts, kerf, order, set, share, err)
		}
		return -1
	}
	if err != api.OK || !slices.Equal(set, want) {
		t.Fatal(rods, parts, kerf, order, set, err, want)
	}
	var used []api.Rod
	for _, i := range set {
		used = append(used, rods[i])
	}
	checkShare(t, used, parts, kerf, share, listed(order))
	return len(set)
}

// checkBoth compares both functions with what cuts of rods yield, for random takes and a random order of up to so many. It returns how many wares are made, and how many rods are used.
func checkBoth(t *testing.T, r *rand.Rand, rods []api.Rod, parts []api.Part, most int, yieldsOf func(api.Rod, []api.Part, int) map[tally]bool) (int, int) {
	t.Helper()
	kerf := randomKerf(r)
	var yields []map[tally]bool
	for _, rod := range rods {
		yields = append(yields, yieldsOf(rod, parts, kerf))
	}
	takes := randomCounts(r, len(parts), 2)
	takes[r.Intn(len(parts))] = 1
	return checkWares(t, rods, yields, parts, kerf, takes), checkFill(t, rods, yields, parts, kerf, randomCounts(r, len(parts), most))
}

func TestSharesAgainstAllCuts(t *testing.T) {
	r := rand.New(rand.NewSource(12))
	wares, fills := map[int]int{}, map[int]int{}
	for range 150 {
		many, used := checkBoth(t, r, randomRods(r, r.Intn(4), 200, 480), randomParts(r, 1+r.Intn(3), 220), 2, tallies)
		wares[many]++
		fills[used]++
	}
	if wares[0] < 50 || wares[1] < 10 || wares[2] < 3 || fills[-1] < 30 || fills[1] < 10 || fills[2] < 5 {
		t.Error("the random rods are not of all kinds:", wares, fills)
	}
}

func TestSharesOfMoreRods(t *testing.T) {
	r := rand.New(rand.NewSource(13))
	wares, fills := map[int]int{}, map[int]int{}
	for range 150 {
		many, used := checkBoth(t, r, randomRods(r, 2+r.Intn(4), 400, 1800), randomParts(r, 1+r.Intn(3), 300), 6, early)
		wares[many]++
		fills[used]++
	}
	if len(wares) < 6 || len(fills) < 5 {
		t.Error("the random rods are not of all kinds:", wares, fills)
	}
}

// P5.5: With a rod more, no fewer wares are made. P5.6: Rods that fill an order are at least as many as those of the best filling.
func TestMoreRods(t *testing.T) {
	r := rand.New(rand.NewSource(14))
	more, filled := 0, 0
	for range 200 {
		rods, parts, kerf := randomRods(r, 1+r.Intn(6), 400, 2500), randomParts(r, 3, 400), randomKerf(r)
		takes := []int{r.Intn(2), 1, r.Intn(2)}
		fewer, _, err := maker.Wares(rods[1:], parts, kerf, takes)
		many, share, err2 := maker.Wares(rods, parts, kerf, takes)
		if err != api.OK || err2 != api.OK || many < fewer {
			t.Fatal(rods, parts, kerf, takes, many, fewer)
		}
		if many > fewer {
			more++
		}
		order := tallyOf(share[:len(share)-1]...)
		set, _, err := maker.Fill(rods, parts, kerf, order[:])
		if err != api.OK || len(set) > len(rods)-1 {
			t.Fatal(rods, parts, kerf, order, set, err)
		}
		filled += len(set)
	}
	if more < 30 || filled < 100 {
		t.Error("so few of the rods are of use:", more, filled)
	}
}

func TestSharesAtTheLimits(t *testing.T) {
	parts := []api.Part{anywhere(200, 0), anywhere(300, 0), anywhere(500, 0)}
	rods := slices.Repeat([]api.Rod{pole(4000)}, api.MakeRods)
	most := []int{24, 24, 24}
	set, share, err := maker.Fill(rods, parts, 0, most)
	if err != api.OK || !slices.Equal(set, []int{0, 1, 2, 3, 4, 5}) {
		t.Error(set, err)
	}
	checkShare(t, rods, parts, 0, share, listed(most))
	many, share, err := maker.Wares(rods, parts, 0, []int{4, 4, 4})
	if err != api.OK || many != 6 {
		t.Error(many, err)
	}
	checkShare(t, rods, parts, 0, share, listed(most))
	rods[3].Length--
	if set, share, err := maker.Fill(rods, parts, 0, most); err != api.ErrNone || len(set)+len(share) != 0 {
		t.Error(set, share, err)
	}
	if many, _, err := maker.Wares(rods, parts, 0, []int{4, 4, 4}); err != api.OK || many != 5 {
		t.Error(many, err)
	}
}

func TestTooManyRodsOrParts(t *testing.T) {
	r, p := chapterRod(), chapterParts()[1]
	rods := func(many int) []api.Rod { return slices.Repeat([]api.Rod{r}, many) }
	parts := func(many int) []api.Part { return slices.Repeat([]api.Part{p}, many) }
	ones := func(many int) []int { return slices.Repeat([]int{1}, many) }
	for name, c := range map[string]struct {
		rods  []api.Rod
		parts []api.Part
		list  []int
		want  api.Errno
	}{
		"as many as can be":         {rods(6), parts(3), ones(3), api.OK},
		"a rod too many":            {rods(7), parts(3), ones(3), api.ErrLong},
		"many rods too many":        {rods(2000), parts(1), ones(1), api.ErrLong},
		"a part too many":           {rods(1), parts(4), ones(4), api.ErrLong},
		"no rods, a part too many":  {nil, parts(4), ones(4), api.ErrLong},
		"many parts too many":       {rods(7), parts(10), ones(10), api.ErrLong},
		"only the last part":        {rods(1), parts(4), []int{0, 0, 0, 1}, api.ErrLong},
		"parts that are none":       {rods(7), parts(11), ones(11), api.ErrArg},
		"a list too short":          {rods(7), parts(4), ones(3), api.ErrArg},
		"a list too long":           {rods(7), parts(4), ones(5), api.ErrArg},
		"a number too great":        {rods(7), parts(4), []int{1, 1, 1, 25}, api.ErrArg},
		"a number less than 0":      {rods(7), parts(4), []int{1, 1, 1, -1}, api.ErrArg},
		"the eighth rod is none":    {append(rods(7), api.Rod{}), parts(1), ones(1), api.ErrArg},
		"the fourth part is none":   {rods(7), append(parts(3), api.Part{}), ones(4), api.ErrArg},
		"rods are right, no parts":  {rods(1), nil, nil, api.ErrArg},
		"no rods, and no part":      {nil, nil, nil, api.ErrArg},
		"no rods, and a wrong part": {nil, []api.Part{{}}, ones(1), api.ErrArg},
	} {
		if n, share, err := maker.Wares(c.rods, c.parts, 10, c.list); err != c.want || err != api.OK && n+len(share) != 0 {
			t.Error(name, n, share, err)
		}
		if set, share, err := maker.Fill(c.rods, c.parts, 10, c.list); err != c.want || err != api.OK && len(set)+len(share) != 0 {
			t.Error(name, set, share, err)
		}
	}
}

func TestWaresAndOrdersThatAreNone(t *testing.T) {
	rods, parts := []api.Rod{chapterRod()}, chapterParts()
	for _, c := range []struct {
		list        []int
		ware, order api.Errno
	}{
		{[]int{0, 1}, api.OK, api.OK},
		{[]int{0, 0}, api.ErrArg, api.OK},
		{[]int{4, 4}, api.OK, api.ErrNone},
		{[]int{5, 1}, api.ErrArg, api.ErrNone},
		{[]int{1, 5}, api.ErrArg, api.ErrNone},
		{[]int{24, 24}, api.ErrArg, api.ErrNone},
		{[]int{25, 1}, api.ErrArg, api.ErrArg},
		{[]int{1, 25}, api.ErrArg, api.ErrArg},
		{[]int{-1, 1}, api.ErrArg, api.ErrArg},
		{[]int{1, -1}, api.ErrArg, api.ErrArg},
		{[]int{math.MaxInt, math.MinInt}, api.ErrArg, api.ErrArg},
		{nil, api.ErrArg, api.ErrArg},
		{[]int{1}, api.ErrArg, api.ErrArg},
		{[]int{1, 1, 0}, api.ErrArg, api.ErrArg},
	} {
		if n, share, err := maker.Wares(rods, parts, 10, c.list); err != c.ware || err != api.OK && n+len(share) != 0 {
			t.Error(c, n, share, err)
		}
		if set, share, err := maker.Fill(rods, parts, 10, c.list); err != c.order || err != api.OK && len(set)+len(share) != 0 {
			t.Error(c, set, share, err)
		}
	}
}
