package maker_test

import (
	"cmp"
	"iter"
	"math"
	"math/big"
	"math/rand"
	"slices"

	"greenhew/api"
)

// chapterRod returns the rod r of the chapter.
func chapterRod() api.Rod { return api.Rod{Length: 1000, Butt: 100, Tip: 50, Bend: 10} }

// chapterParts returns the parts of the chapter.
func chapterParts() []api.Part {
	return []api.Part{
		{Length: 400, Least: 70, Most: 100, Bend: 20, Price: 5},
		{Length: 300, Least: 50, Most: 80, Bend: 20, Price: 3},
	}
}

// any part of a length can be cut from each rod that is long enough.
func anywhere(length, price int) api.Part {
	return api.Part{Length: length, Most: api.MakeGirth, Bend: api.MakeBend, Price: price}
}

// pole returns a rod that is as thick at the tip as at the butt, and straight.
func pole(length int) api.Rod { return api.Rod{Length: length, Butt: 50, Tip: 50} }

// girthAt follows the chapter word for word.
func girthAt(r api.Rod, place int) *big.Rat {
	return big.NewRat(int64(r.Butt*r.Length-(r.Butt-r.Tip)*place), int64(r.Length))
}

// upTo returns the bulk and the bark up to a place, word for word.
func upTo(r api.Rod, place int) (bulk, bark int) {
	x, l, butt := big.NewInt(int64(place)), big.NewInt(int64(r.Length)), big.NewInt(int64(r.Butt))
	n := big.NewInt(int64(r.Butt*r.Length - (r.Butt-r.Tip)*place))
	times := func(f ...*big.Int) *big.Int {
		product := big.NewInt(1)
		for _, a := range f {
			product.Mul(product, a)
		}
		return product
	}
	plus := func(a ...*big.Int) *big.Int {
		sum := new(big.Int)
		for _, b := range a {
			sum.Add(sum, b)
		}
		return sum
	}
	b := times(x, plus(times(butt, butt, l, l), times(butt, n, l), times(n, n)))
	c := times(x, plus(times(butt, l), n))
	b.Div(b, times(big.NewInt(3), l, l))
	c.Div(c, times(big.NewInt(2), l))
	return int(b.Int64()), int(c.Int64())
}

// canCut follows the chapter word for word.
func canCut(r api.Rod, p api.Part, at int) bool {
	return at >= 0 && at <= r.Length && at+p.Length <= r.Length && r.Bend <= p.Bend &&
		girthAt(r, at).Cmp(big.NewRat(int64(p.Most), 1)) <= 0 && girthAt(r, at+p.Length).Cmp(big.NewRat(int64(p.Least), 1)) >= 0
}

// rightOf follows the chapter word for word.
func rightOf(r api.Rod, parts []api.Part, kerf int, cut []api.Piece) (int, bool) {
	price := 0
	for i, p := range cut {
		if p.Part < 0 || p.Part >= len(parts) || !canCut(r, parts[p.Part], p.At) {
			return 0, false
		}
		if i > 0 && p.At < cut[i-1].At+parts[cut[i-1].Part].Length+kerf {
			return 0, false
		}
		price += parts[p.Part].Price
	}
	return price, true
}

// placesOf returns, for each part, at which places of a rod it can be cut.
func placesOf(r api.Rod, parts []api.Part) [][]bool {
	places := make([][]bool, len(parts))
	for i, p := range parts {
		for at := 0; at <= r.Length; at++ {
			places[i] = append(places[i], canCut(r, p, at))
		}
	}
	return places
}

// rightCuts yields all right cuts of a rod with their prices, in lexicographic order. A cut is valid until the next one.
func rightCuts(r api.Rod, parts []api.Part, kerf int) iter.Seq2[[]api.Piece, int] {
	places := placesOf(r, parts)
	return func(yield func([]api.Piece, int) bool) {
		var cut []api.Piece
		var goOn func(free, price int) bool
		goOn = func(free, price int) bool {
			if !yield(cut, price) {
				return false
			}
			for at := free; at <= r.Length; at++ {
				for i, p := range parts {
					if !places[i][at] {
						continue
					}
					cut = append(cut, api.Piece{Part: i, At: at})
					if !goOn(at+p.Length+kerf, price+p.Price) {
						return false
					}
					cut = cut[:len(cut)-1]
				}
			}
			return true
		}
		goOn(0, 0)
	}
}

// firstBest goes through all right cuts.
func firstBest(r api.Rod, parts []api.Part, kerf int) ([]api.Piece, int) {
	var best []api.Piece
	most := 0
	for cut, price := range rightCuts(r, parts, kerf) {
		if price > most || price == most && len(cut) < len(best) {
			best, most = slices.Clone(cut), price
		}
	}
	return best, most
}

// comparePieces compares by At, then by Part.
func comparePieces(a, b api.Piece) int {
	return cmp.Or(cmp.Compare(a.At, b.At), cmp.Compare(a.Part, b.Part))
}

// bestByEnds returns the best cut, found from the butt: for each number of pieces and each price, it keeps where a cut can end first.
func bestByEnds(r api.Rod, parts []api.Part, kerf int) (price, pieces int) {
	places := placesOf(r, parts)
	type sum struct{ price, pieces int }
	free := map[sum]int{{}: 0}
	for pieces := 0; ; pieces++ {
		longer := false
		for s, from := range free {
			if s.pieces != pieces {
				continue
			}
			for i, p := range parts {
				at := slices.Index(places[i][min(from, len(places[i])):], true)
				if at < 0 {
					continue
				}
				n, end := sum{s.price + p.Price, pieces + 1}, from+at+p.Length+kerf
				if old, ok := free[n]; !ok || end < old {
					free[n], longer = end, true
				}
			}
		}
		if !longer {
			break
		}
	}
	best := sum{}
	for s := range free {
		if s.price > best.price || s.price == best.price && s.pieces < best.pieces {
			best = s
		}
	}
	return best.price, best.pieces
}

// rest is the price of the best cut from a place on, and how many pieces it has.
type rest struct{ price, pieces int }

// restsOf returns the rest of each place, and of some behind the rod.
func restsOf(r api.Rod, parts []api.Part, kerf int) []rest {
	places := placesOf(r, parts)
	rests := make([]rest, r.Length+1+api.MakeKerf+1)
	for at := r.Length; at >= 0; at-- {
		rests[at] = rests[at+1]
		for i, p := range parts {
			if !places[i][at] {
				continue
			}
			behind := rests[at+p.Length+kerf]
			if n := (rest{behind.price + p.Price, behind.pieces + 1}); n.price > rests[at].price || n.price == rests[at].price && n.pieces < rests[at].pieces {
				rests[at] = n
			}
		}
	}
	return rests
}

// saysOf follows the chapter word for word.
func saysOf(r api.Rod, proof []api.Worth, place int) int {
	says := 0
	for _, w := range proof {
		if w.From <= place && place <= r.Length {
			says = w.Value
		}
	}
	return says
}

// isProof follows the chapter word for word.
func isProof(r api.Rod, proof []api.Worth) bool {
	if len(proof) == 0 || len(proof) > api.MakeLength+1 || proof[0].From != 0 {
		return false
	}
	for i, w := range proof {
		if w.From > r.Length || w.Value < 0 || i > 0 && (w.From <= proof[i-1].From || w.Value > proof[i-1].Value) {
			return false
		}
	}
	return true
}

// isValid follows the chapter word for word, for values that are small enough for sums.
func isValid(r api.Rod, parts []api.Part, kerf int, proof []api.Worth) bool {
	if !isProof(r, proof) {
		return false
	}
	for i, places := range placesOf(r, parts) {
		for at, can := range places {
			if can && saysOf(r, proof, at) < parts[i].Price+saysOf(r, proof, at+parts[i].Length+kerf) {
				return false
			}
		}
	}
	return true
}

// tally is how many pieces of each of at most three parts there are.
type tally [3]int

func tallyOf(cuts ...[]api.Piece) tally {
	var t tally
	for _, cut := range cuts {
		for _, p := range cut {
			t[p.Part]++
		}
	}
	return t
}

func (t tally) plus(o tally) tally { return tally{t[0] + o[0], t[1] + o[1], t[2] + o[2]} }

func (t tally) times(n int) tally { return tally{n * t[0], n * t[1], n * t[2]} }

func (t tally) atLeast(o tally) bool { return t[0] >= o[0] && t[1] >= o[1] && t[2] >= o[2] }

func listed(l []int) tally {
	var t tally
	copy(t[:], l)
	return t
}

// tallies returns what all right cuts of a rod yield.
func tallies(r api.Rod, parts []api.Part, kerf int) map[tally]bool {
	all := map[tally]bool{}
	for cut := range rightCuts(r, parts, kerf) {
		all[tallyOf(cut)] = true
	}
	return all
}

// early returns what right cuts yield of which each piece begins as early as it can behind the one before it, for rods with too many right cuts.
func early(r api.Rod, parts []api.Part, kerf int) map[tally]bool {
	places := placesOf(r, parts)
	all := map[tally]bool{}
	var goOn func(free int, t tally)
	goOn = func(free int, t tally) {
		all[t] = true
		for i, p := range parts {
			if at := slices.Index(places[i][min(free, len(places[i])):], true); at >= 0 {
				more := t
				more[i]++
				goOn(free+at+p.Length+kerf, more)
			}
		}
	}
	goOn(0, tally{})
	return all
}

// sums returns all sums of one tally of each set; of no sets, it is the empty tally.
func sums(sets ...map[tally]bool) map[tally]bool {
	all := map[tally]bool{{}: true}
	for _, set := range sets {
		longer := map[tally]bool{}
		for a := range all {
			for b := range set {
				longer[a.plus(b)] = true
			}
		}
		all = longer
	}
	return all
}

// mostWares returns the greatest number of wares, given what shares yield.
func mostWares(all map[tally]bool, takes tally) int {
	for n := api.MakeWares; ; n-- {
		for t := range all {
			if t.atLeast(takes.times(n)) {
				return n
			}
		}
	}
}

// firstFilling goes through all sets of rods, given what each rod yields.
func firstFilling(rods []api.Rod, yields []map[tally]bool, order tally) ([]int, bool) {
	var best []int
	bestLength, ok := 0, false
	for bits := range 1 << len(rods) {
		var set []int
		var sets []map[tally]bool
		length := 0
		for i, r := range rods {
			if bits>>i&1 == 1 {
				set, sets, length = append(set, i), append(sets, yields[i]), length+r.Length
			}
		}
		if ok && cmp.Or(cmp.Compare(len(set), len(best)), cmp.Compare(length, bestLength), slices.Compare(set, best)) >= 0 {
			continue
		}
		for t := range sums(sets...) {
			if t.atLeast(order) {
				best, bestLength, ok = set, length, true
				break
			}
		}
	}
	return best, ok
}

func randomRod(r *rand.Rand, least, most int) api.Rod {
	a, b := 1+r.Intn(12), 1+r.Intn(12)
	return api.Rod{Length: least + r.Intn(most-least+1), Butt: max(a, b), Tip: min(a, b), Bend: r.Intn(4)}
}

func randomRods(r *rand.Rand, many, least, most int) []api.Rod {
	var rods []api.Rod
	for range many {
		rods = append(rods, randomRod(r, least, most))
	}
	return rods
}

// randomParts returns parts of lengths up to one, most of which can be cut somewhere, with small prices.
func randomParts(r *rand.Rand, many, longest int) []api.Part {
	var parts []api.Part
	for range many {
		parts = append(parts, api.Part{
			Length: api.MakeShort + r.Intn(longest-api.MakeShort+1), Least: r.Intn(7), Most: 6 + r.Intn(8), Bend: 2 + r.Intn(8), Price: r.Intn(5),
		})
	}
	return parts
}

func randomKerf(r *rand.Rand) int { return []int{0, 1, 5, r.Intn(101)}[r.Intn(4)] }

func randomCounts(r *rand.Rand, many, most int) []int {
	var l []int
	for range many {
		l = append(l, r.Intn(most+1))
	}
	return l
}

// odd returns a number that is often out of range.
func odd(r *rand.Rand) int {
	l := []int{math.MinInt, -2, -1, 0, 1, 2, 3, 4, 5, 10, 24, 25, 50, 99, 100, 101, 199, 200, 400, 999, 1000, 1001, 9999, 10000, 10001, 100000, 100001, math.MaxInt - 1, math.MaxInt}
	return l[r.Intn(len(l))]
}

func oddInts(r *rand.Rand) []int {
	var l []int
	for range r.Intn(5) {
		l = append(l, odd(r))
	}
	return l
}
