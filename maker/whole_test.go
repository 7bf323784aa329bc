package maker_test

import (
	"math"
	"math/rand"
	"slices"
	"testing"

	"greenhew/api"
	"greenhew/maker"
)

// wrongRods returns rods that are not as defined.
func wrongRods() []api.Rod {
	return []api.Rod{
		{},
		{Length: 0, Butt: 10, Tip: 5},
		{Length: -1, Butt: 10, Tip: 5},
		{Length: api.MakeLength + 1, Butt: 10, Tip: 5},
		{Length: 1000, Butt: 10, Tip: 0},
		{Length: 1000, Butt: 10, Tip: -1},
		{Length: 1000, Butt: 10, Tip: 11},
		{Length: 1000, Butt: 0, Tip: 0},
		{Length: 1000, Butt: -1, Tip: -1},
		{Length: 1000, Butt: api.MakeGirth + 1, Tip: 5},
		{Length: 1000, Butt: api.MakeGirth + 1, Tip: api.MakeGirth + 1},
		{Length: 1000, Butt: 10, Tip: 5, Bend: -1},
		{Length: 1000, Butt: 10, Tip: 5, Bend: api.MakeBend + 1},
		{Length: math.MaxInt, Butt: math.MaxInt, Tip: 1, Bend: math.MinInt},
		{Length: math.MinInt, Butt: math.MinInt, Tip: math.MinInt, Bend: math.MaxInt},
	}
}

// wrongParts returns parts that are not as defined.
func wrongParts() []api.Part {
	return []api.Part{
		{},
		{Length: api.MakeShort - 1, Most: 100},
		{Length: -400, Most: 100},
		{Length: api.MakeLength + 1, Most: 100},
		{Length: 400, Least: -1, Most: 100},
		{Length: 400, Least: 101, Most: 100},
		{Length: 400, Least: 0, Most: -1},
		{Length: 400, Least: -1, Most: -1},
		{Length: 400, Most: api.MakeGirth + 1},
		{Length: 400, Least: api.MakeGirth + 1, Most: api.MakeGirth + 1},
		{Length: 400, Most: 100, Bend: -1},
		{Length: 400, Most: 100, Bend: api.MakeBend + 1},
		{Length: 400, Most: 100, Price: -1},
		{Length: 400, Most: 100, Price: api.MakePrice + 1},
		{Length: math.MaxInt, Least: math.MinInt, Most: math.MaxInt, Bend: math.MinInt, Price: math.MaxInt},
	}
}

// refused checks that all functions for a rod, parts and a kerf refuse them.
func refused(t *testing.T, r api.Rod, parts []api.Part, kerf int) {
	t.Helper()
	if err := maker.Check(r, parts, kerf); err != api.ErrArg {
		t.Error(r, parts, kerf, err)
	}
	if price, ok := maker.Right(r, parts, kerf, nil); ok || price != 0 {
		t.Error(r, parts, kerf, price, ok)
	}
	if cut, price, err := maker.Cut(r, parts, kerf); err != api.ErrArg || len(cut)+price != 0 {
		t.Error(r, parts, kerf, cut, price, err)
	}
	if n, err := maker.Waste(r, parts, kerf, nil); err != api.ErrArg || n != 0 {
		t.Error(r, parts, kerf, n, err)
	}
	if n, err := maker.Waste(r, parts, kerf, []api.Piece{{Part: -1}}); err != api.ErrArg || n != 0 {
		t.Error(r, parts, kerf, n, err)
	}
	if proof, err := maker.Proof(r, parts, kerf); err != api.ErrArg || len(proof) != 0 {
		t.Error(r, parts, kerf, proof, err)
	}
	if bound, ok := maker.Proves(r, parts, kerf, []api.Worth{{Value: math.MaxInt}, {From: 1}}); ok || bound != 0 {
		t.Error(r, parts, kerf, bound, ok)
	}
	list := slices.Repeat([]int{1}, len(parts))
	for _, rods := range [][]api.Rod{{r}, {r, chapterRod()}, {chapterRod(), r}, slices.Repeat([]api.Rod{r}, api.MakeRods+1)} {
		if n, share, err := maker.Wares(rods, parts, kerf, list); err != api.ErrArg || n+len(share) != 0 {
			t.Error(rods, parts, kerf, n, share, err)
		}
		if set, share, err := maker.Fill(rods, parts, kerf, list); err != api.ErrArg || len(set)+len(share) != 0 {
			t.Error(rods, parts, kerf, set, share, err)
		}
	}
}

func TestRodsThatAreNone(t *testing.T) {
	for _, r := range wrongRods() {
		refused(t, r, chapterParts(), 10)
		if n, err := maker.Girth(r, 0, 5); err != api.ErrArg || n != 0 {
			t.Error(r, n, err)
		}
		if n, err := maker.Bulk(r, 0, 0); err != api.ErrArg || n != 0 {
			t.Error(r, n, err)
		}
		if n, err := maker.Bark(r, 0, 0); err != api.ErrArg || n != 0 {
			t.Error(r, n, err)
		}
		for _, rods := range [][]api.Rod{{r}, {chapterRod(), r}, {r, chapterRod()}} {
			if l, err := maker.Sort(rods, nil); err != api.ErrArg || len(l) != 0 {
				t.Error(rods, l, err)
			}
		}
	}
}

func TestPartsAndKerfsThatAreNone(t *testing.T) {
	right := chapterParts()[0]
	for _, wrong := range wrongParts() {
		refused(t, chapterRod(), []api.Part{wrong}, 10)
		refused(t, chapterRod(), []api.Part{right, wrong}, 10)
		refused(t, chapterRod(), []api.Part{wrong, right}, 10)
	}
	refused(t, chapterRod(), nil, 10)
	refused(t, chapterRod(), []api.Part{}, 10)
	refused(t, chapterRod(), slices.Repeat([]api.Part{right}, api.MakeParts+1), 10)
	for _, kerf := range []int{-1, api.MakeKerf + 1, math.MinInt, math.MaxInt} {
		refused(t, chapterRod(), chapterParts(), kerf)
	}
}

func TestRodsAndPartsAtTheirLimits(t *testing.T) {
	for _, r := range []api.Rod{
		{Length: 1, Butt: 1, Tip: 1},
		{Length: api.MakeLength, Butt: api.MakeGirth, Tip: 1, Bend: api.MakeBend},
		{Length: api.MakeLength, Butt: api.MakeGirth, Tip: api.MakeGirth},
	} {
		for _, p := range []api.Part{
			{Length: api.MakeShort},
			{Length: api.MakeLength, Least: api.MakeGirth, Most: api.MakeGirth, Bend: api.MakeBend, Price: api.MakePrice},
			{Length: api.MakeLength, Most: api.MakeGirth},
		} {
			for _, many := range []int{1, api.MakeParts} {
				for _, kerf := range []int{0, api.MakeKerf} {
					if err := maker.Check(r, slices.Repeat([]api.Part{p}, many), kerf); err != api.OK {
						t.Error(r, p, many, kerf, err)
					}
				}
			}
		}
	}
}

// call is all arguments of the layer's functions together.
type call struct {
	rod                     api.Rod
	rods                    []api.Rod
	parts                   []api.Part
	grades                  []api.Grade
	cut                     []api.Piece
	proof                   []api.Worth
	list                    []int
	kerf, place, end, girth int
}

func (c call) copy() call {
	c.rods, c.parts, c.grades = slices.Clone(c.rods), slices.Clone(c.parts), slices.Clone(c.grades)
	c.cut, c.proof, c.list = slices.Clone(c.cut), slices.Clone(c.proof), slices.Clone(c.list)
	return c
}

func (c call) equal(o call) bool {
	return slices.Equal(c.rods, o.rods) && slices.Equal(c.parts, o.parts) && slices.Equal(c.grades, o.grades) && slices.Equal(c.cut, o.cut) &&
		slices.Equal(c.proof, o.proof) && slices.Equal(c.list, o.list)
}

// answer is what a function returned: numbers, lists and its error. The error of Right and Proves is -1 if they returned false.
type answer struct {
	err     api.Errno
	numbers []int
	lists   [][]int
	cuts    [][]api.Piece
	proof   []api.Worth
}

func (a answer) equal(o answer) bool {
	return a.err == o.err && slices.Equal(a.numbers, o.numbers) && slices.EqualFunc(a.lists, o.lists, slices.Equal) &&
		slices.EqualFunc(a.cuts, o.cuts, slices.Equal) && slices.Equal(a.proof, o.proof)
}

// isZero reports whether all of an answer is its zero value, but for the error.
func (a answer) isZero() bool {
	return !slices.ContainsFunc(a.numbers, func(n int) bool { return n != 0 }) &&
		!slices.ContainsFunc(a.lists, func(l []int) bool { return len(l) > 0 }) && len(a.cuts)+len(a.proof) == 0
}

// fill overwrites the memory of an answer, each list with something of its own.
func (a answer) fill() {
	for k, l := range a.lists {
		for x := range l[:cap(l)] {
			l[:cap(l)][x] = -7 - k
		}
	}
	for k, l := range a.cuts {
		for x := range l[:cap(l)] {
			l[:cap(l)][x] = api.Piece{Part: -7 - k}
		}
	}
	for x := range a.proof[:cap(a.proof)] {
		a.proof[:cap(a.proof)][x] = api.Worth{From: -7}
	}
}

// isFilled reports whether each list of an answer still has what it was filled with.
func (a answer) isFilled() bool {
	for k, l := range a.lists {
		if slices.ContainsFunc(l, func(n int) bool { return n != -7-k }) {
			return false
		}
	}
	for k, l := range a.cuts {
		if slices.ContainsFunc(l, func(p api.Piece) bool { return p.Part != -7-k }) {
			return false
		}
	}
	return true
}

func okOr(ok bool) api.Errno { return map[bool]api.Errno{true: api.OK, false: -1}[ok] }

// asked returns the answers of all functions.
func (c call) asked() []answer {
	girth, err1 := maker.Girth(c.rod, c.place, c.girth)
	sorted, err2 := maker.Sort(c.rods, c.grades)
	bulk, err3 := maker.Bulk(c.rod, c.place, c.end)
	bark, err4 := maker.Bark(c.rod, c.place, c.end)
	price, right := maker.Right(c.rod, c.parts, c.kerf, c.cut)
	cut, most, err5 := maker.Cut(c.rod, c.parts, c.kerf)
	waste, err6 := maker.Waste(c.rod, c.parts, c.kerf, c.cut)
	proof, err7 := maker.Proof(c.rod, c.parts, c.kerf)
	bound, proves := maker.Proves(c.rod, c.parts, c.kerf, c.proof)
	many, share, err8 := maker.Wares(c.rods, c.parts, c.kerf, c.list)
	set, filling, err9 := maker.Fill(c.rods, c.parts, c.kerf, c.list)
	cuts := [][]api.Piece{cut}
	if len(cut) == 0 {
		cuts = nil
	}
	return []answer{
		{err: maker.Check(c.rod, c.parts, c.kerf)},
		{err: err1, numbers: []int{girth}},
		{err: err2, lists: [][]int{sorted}},
		{err: err3, numbers: []int{bulk}},
		{err: err4, numbers: []int{bark}},
		{err: okOr(right), numbers: []int{price}},
		{err: err5, numbers: []int{most}, cuts: cuts},
		{err: err6, numbers: []int{waste}},
		{err: err7, proof: proof},
		{err: okOr(proves), numbers: []int{bound}},
		{err: err8, numbers: []int{many}, cuts: share},
		{err: err9, lists: [][]int{set}, cuts: filling},
	}
}

// errorsOf returns which errors each function can return, in the order of their answers.
func errorsOf() [][]api.Errno {
	arg := []api.Errno{api.OK, api.ErrArg}
	return [][]api.Errno{
		arg, arg, arg, arg, arg, {api.OK, -1}, arg, {api.OK, api.ErrArg, api.ErrNone}, arg, {api.OK, -1},
		{api.OK, api.ErrArg, api.ErrLong}, {api.OK, api.ErrArg, api.ErrLong, api.ErrNone},
	}
}

// randomCall returns arguments that are as defined.
func randomCall(r *rand.Rand) call {
	kinds := 1 + r.Intn(3)
	c := call{
		rod: randomRod(r, 200, 900), rods: randomRods(r, r.Intn(4), 200, 900), parts: randomParts(r, kinds, 300), list: randomCounts(r, kinds, 4),
		grades: []api.Grade{{Length: r.Intn(900), Most: r.Intn(20), Bend: r.Intn(10)}}, kerf: randomKerf(r), girth: r.Intn(20),
	}
	c.end = r.Intn(c.rod.Length + 1)
	c.place = r.Intn(c.end + 1)
	c.cut, _, _ = maker.Cut(c.rod, c.parts, c.kerf)
	c.proof, _ = maker.Proof(c.rod, c.parts, c.kerf)
	return c
}

// spoil puts something odd into arguments.
func spoil(r *rand.Rand, c *call) {
	rod := api.Rod{Length: odd(r), Butt: odd(r), Tip: odd(r), Bend: odd(r)}
	switch r.Intn(8) {
	case 0:
		c.rod = rod
	case 1:
		c.rods = append(c.rods, rod)
	case 2:
		c.parts = append(c.parts, api.Part{Length: odd(r), Least: odd(r), Most: odd(r), Bend: odd(r), Price: odd(r)})
	case 3:
		c.grades = append(c.grades, api.Grade{Length: odd(r), Least: odd(r), Most: odd(r), Bend: odd(r)})
	case 4:
		c.cut = append(c.cut, api.Piece{Part: odd(r), At: odd(r)})
	case 5:
		c.proof = append(c.proof, api.Worth{From: odd(r), Value: odd(r)})
	case 6:
		c.list = oddInts(r)
	default:
		c.kerf, c.place, c.end, c.girth = odd(r), odd(r), odd(r), odd(r)
	}
}

func TestFunctionsAnswerForAllArguments(t *testing.T) {
	r := rand.New(rand.NewSource(15))
	known := errorsOf()
	for range 4000 {
		c := randomCall(r)
		for range r.Intn(4) {
			spoil(r, &c)
		}
		before := c.copy()
		l := c.asked()
		if !c.equal(before) {
			t.Fatal("arguments have changed:", before, c)
		}
		for i, a := range l {
			if !slices.Contains(known[i], a.err) || a.err != api.OK && !a.isZero() {
				t.Fatal(before, i, a)
			}
		}
	}
}

func TestResultsAreNewMemory(t *testing.T) {
	r := rand.New(rand.NewSource(16))
	for range 300 {
		c := randomCall(r)
		before, first := c.copy(), c.asked()
		second := c.asked()
		for i, a := range first {
			if !a.equal(second[i]) {
				t.Fatal("not the same again:", before, i, a, second[i])
			}
			a.fill()
			if !a.isFilled() {
				t.Fatal("results share memory:", before, i, a)
			}
		}
		third := c.asked()
		if !c.equal(before) || !slices.EqualFunc(second, third, answer.equal) {
			t.Fatal("a result shares memory with arguments or others:", before, c)
		}
	}
}
