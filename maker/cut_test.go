package maker_test

import (
	"math"
	"math/rand"
	"slices"
	"testing"

	"greenhew/api"
	"greenhew/maker"
)

func TestCutsOfTheChapter(t *testing.T) {
	r, parts := chapterRod(), chapterParts()
	cut, price, err := maker.Cut(r, parts, 10)
	if err != api.OK || price != 8 || !slices.Equal(cut, []api.Piece{{Part: 0, At: 0}, {Part: 1, At: 410}}) {
		t.Error(cut, price, err)
	}
	n, err := maker.Waste(r, parts, 10, cut)
	first, _ := maker.Bulk(r, 400, 410)
	second, _ := maker.Bulk(r, 710, 1000)
	if err != api.OK || n != first+second {
		t.Error(n, err, first, second)
	}
}

func TestWherePartsCanBeCut(t *testing.T) {
	r, parts := chapterRod(), chapterParts()
	for at := -5; at <= r.Length+5; at++ {
		for i, first := range []int{0, 400} {
			last := []int{200, 700}[i]
			price, ok := maker.Right(r, parts, 10, []api.Piece{{Part: i, At: at}})
			if want := at >= first && at <= last; ok != want || want && price != parts[i].Price || !want && price != 0 {
				t.Error(i, at, price, ok)
			}
		}
	}
}

func TestCutsThatAreNotRight(t *testing.T) {
	r, parts := chapterRod(), chapterParts()
	for name, cut := range map[string][]api.Piece{
		"too thin at its end":        {{Part: 0, At: 201}},
		"too thick":                  {{Part: 1, At: 399}},
		"too long for the rod":       {{Part: 1, At: 701}},
		"before the butt":            {{Part: 0, At: -1}},
		"no such part":               {{Part: 2, At: 0}},
		"less than no part":          {{Part: -1, At: 0}},
		"the greatest part":          {{Part: math.MaxInt, At: 0}},
		"the least part":             {{Part: math.MinInt, At: 0}},
		"the greatest place":         {{Part: 0, At: math.MaxInt}},
		"the least place":            {{Part: 0, At: math.MinInt}},
		"less than the kerf":         {{Part: 0, At: 0}, {Part: 1, At: 409}},
		"one over another":           {{Part: 0, At: 0}, {Part: 0, At: 100}},
		"two at one place":           {{Part: 1, At: 400}, {Part: 1, At: 400}},
		"from the tip to the butt":   {{Part: 1, At: 410}, {Part: 0, At: 0}},
		"the second one not right":   {{Part: 0, At: 0}, {Part: 1, At: 701}},
		"right, but for the last":    {{Part: 0, At: 0}, {Part: 1, At: 410}, {Part: 2, At: 900}},
		"a great place, then a kerf": {{Part: 1, At: math.MaxInt - 300}, {Part: 0, At: 0}},
	} {
		if price, ok := maker.Right(r, parts, 10, cut); ok || price != 0 {
			t.Error(name, price, ok)
		}
		if n, err := maker.Waste(r, parts, 10, cut); err != api.ErrNone || n != 0 {
			t.Error(name, n, err)
		}
	}
}

func TestKerfs(t *testing.T) {
	parts := []api.Part{anywhere(200, 1)}
	for _, kerf := range []int{0, 1, 7, api.MakeKerf} {
		cut := []api.Piece{{At: 0}, {At: 200 + kerf}, {At: 400 + 2*kerf}}
		// Behind the last piece, no kerf is needed.
		r := pole(600 + 2*kerf)
		if best, price, err := maker.Cut(r, parts, kerf); err != api.OK || price != 3 || !slices.Equal(best, cut) {
			t.Error(kerf, best, price, err)
		}
		if price, ok := maker.Right(r, parts, kerf, cut); !ok || price != 3 {
			t.Error(kerf, price, ok)
		}
		if n, err := maker.Waste(r, parts, kerf, cut); err != api.OK || n != 2*kerf*50*50 {
			t.Error(kerf, n, err)
		}
		r.Length--
		if best, price, err := maker.Cut(r, parts, kerf); err != api.OK || price != 2 || !slices.Equal(best, cut[:2]) {
			t.Error(kerf, best, price, err)
		}
	}
}

func TestRodsWithoutACut(t *testing.T) {
	r, parts := chapterRod(), chapterParts()
	all, _ := maker.Bulk(r, 0, r.Length)
	if n, err := maker.Waste(r, parts, 10, nil); err != api.OK || n != all {
		t.Error("all is waste:", n, err)
	}
	if price, ok := maker.Right(r, parts, 10, nil); !ok || price != 0 {
		t.Error("no piece is a right cut:", price, ok)
	}
	bent, short, thick := r, r, r
	bent.Bend = 21
	short.Length = 299
	thick.Butt, thick.Tip = 121, 101
	for name, other := range map[string]api.Rod{"bent": bent, "short": short, "thick": thick, "thin": {Length: 1000, Butt: 49, Tip: 40}} {
		if cut, price, err := maker.Cut(other, parts, 10); err != api.OK || price != 0 || len(cut) != 0 {
			t.Error(name, cut, price, err)
		}
	}
	bent.Bend = 20
	if _, price, err := maker.Cut(bent, parts, 10); err != api.OK || price != 8 {
		t.Error(price, err)
	}
	// The fewest pieces are none, if none is worth anything.
	if cut, price, err := maker.Cut(pole(1000), []api.Part{anywhere(200, 0)}, 0); err != api.OK || price != 0 || len(cut) != 0 {
		t.Error(cut, price, err)
	}
}

func TestCutsThatComeFirst(t *testing.T) {
	thin := api.Part{Length: 200, Most: 60, Bend: 100, Price: 2}
	for name, c := range map[string]struct {
		rod   api.Rod
		parts []api.Part
		want  []api.Piece
	}{
		"the greatest price":        {pole(400), []api.Part{anywhere(200, 1), anywhere(400, 3)}, []api.Piece{{Part: 1, At: 0}}},
		"many pieces for more":      {pole(400), []api.Part{anywhere(200, 2), anywhere(400, 3)}, []api.Piece{{Part: 0, At: 0}, {Part: 0, At: 200}}},
		"the fewest pieces":         {pole(400), []api.Part{anywhere(200, 1), anywhere(400, 2)}, []api.Piece{{Part: 1, At: 0}}},
		"the first place":           {pole(500), []api.Part{anywhere(300, 1)}, []api.Piece{{Part: 0, At: 0}}},
		"the first part":            {pole(500), []api.Part{anywhere(300, 0), anywhere(300, 1), anywhere(300, 1)}, []api.Piece{{Part: 1, At: 0}}},
		"the first of two parts":    {pole(500), []api.Part{anywhere(300, 1), anywhere(200, 1)}, []api.Piece{{Part: 0, At: 0}, {Part: 1, At: 300}}},
		"the longer one first":      {pole(500), []api.Part{anywhere(300, 2), anywhere(200, 1)}, []api.Piece{{Part: 0, At: 0}, {Part: 1, At: 300}}},
		"a place before a part":     {api.Rod{Length: 400, Butt: 100, Tip: 20}, []api.Part{thin, anywhere(200, 2), anywhere(200, 1)}, []api.Piece{{Part: 1, At: 0}, {Part: 0, At: 200}}},
		"only where it is thin":     {api.Rod{Length: 500, Butt: 100, Tip: 20}, []api.Part{thin}, []api.Piece{{Part: 0, At: 250}}},
		"nothing for what is for 0": {pole(450), []api.Part{anywhere(200, 0), anywhere(210, 1)}, []api.Piece{{Part: 1, At: 0}, {Part: 1, At: 210}}},
	} {
		if cut, _, err := maker.Cut(c.rod, c.parts, 0); err != api.OK || !slices.Equal(cut, c.want) {
			t.Error(name, cut, err)
		}
	}
}

func TestCutsAgainstAllCuts(t *testing.T) {
	r := rand.New(rand.NewSource(5))
	pieces := map[int]int{}
	for range 400 {
		rod, parts, kerf := randomRod(r, 150, 540), randomParts(r, 1+r.Intn(3), 230), randomKerf(r)
		if r.Intn(10) == 0 {
			rod, kerf = api.Rod{Length: 610 + r.Intn(20), Butt: 6, Tip: 6}, r.Intn(5)
		}
		want, most := firstBest(rod, parts, kerf)
		cut, price, err := maker.Cut(rod, parts, kerf)
		if err != api.OK || price != most || !slices.Equal(cut, want) {
			t.Fatal(rod, parts, kerf, cut, price, err, want, most)
		}
		pieces[len(cut)]++
	}
	if pieces[0] < 50 || pieces[1] < 50 || pieces[2] < 50 || pieces[3] < 3 {
		t.Error("the random rods are not of all kinds:", pieces)
	}
}

func TestRightAgainstTheChapter(t *testing.T) {
	r := rand.New(rand.NewSource(6))
	right := 0
	for range 50000 {
		rod, parts, kerf := randomRod(r, 150, 800), randomParts(r, 1+r.Intn(4), 260), randomKerf(r)
		var cut []api.Piece
		for at := r.Intn(20); at < rod.Length && r.Intn(5) > 0; {
			p := api.Piece{Part: r.Intn(len(parts)), At: at}
			cut = append(cut, p)
			at += parts[p.Part].Length + kerf - min(r.Intn(20), 1) + r.Intn(50)*r.Intn(2)
		}
		want, is := rightOf(rod, parts, kerf, cut)
		if price, ok := maker.Right(rod, parts, kerf, cut); ok != is || price != want {
			t.Fatal(rod, parts, kerf, cut, price, ok, want, is)
		}
		if is && len(cut) > 1 {
			right++
		}
	}
	if right < 500 {
		t.Error("so few of the cuts are right and have some pieces:", right)
	}
}

// P5.3: No right cut has a greater price than the best one; pieces and waste are the rod.
func TestPiecesAndWasteAreTheRod(t *testing.T) {
	r := rand.New(rand.NewSource(7))
	for range 20 {
		rod, parts, kerf := randomRod(r, 400, 500), randomParts(r, 2, 230), randomKerf(r)
		all, _ := maker.Bulk(rod, 0, rod.Length)
		_, most, _ := maker.Cut(rod, parts, kerf)
		for cut, price := range rightCuts(rod, parts, kerf) {
			pieces := 0
			for _, p := range cut {
				n, _ := maker.Bulk(rod, p.At, p.At+parts[p.Part].Length)
				pieces += n
			}
			if n, err := maker.Waste(rod, parts, kerf, cut); err != api.OK || n+pieces != all || n < 0 {
				t.Fatal(rod, parts, kerf, cut, n, err, pieces, all)
			}
			if n, ok := maker.Right(rod, parts, kerf, cut); !ok || n != price || price > most {
				t.Fatal(rod, parts, kerf, cut, n, ok, price, most)
			}
		}
	}
}

func TestGreatCutsAreTheFirst(t *testing.T) {
	r := rand.New(rand.NewSource(8))
	many := 0
	for range 150 {
		rod, parts, kerf := randomRod(r, 1000, 4000), randomParts(r, 1+r.Intn(5), 400), randomKerf(r)
		most, fewest := bestByEnds(rod, parts, kerf)
		cut, price, err := maker.Cut(rod, parts, kerf)
		if n, ok := maker.Right(rod, parts, kerf, cut); err != api.OK || !ok || n != price || price != most || len(cut) != fewest {
			t.Fatal(rod, parts, kerf, cut, price, err, most, fewest)
		}
		many += len(cut)
		checkFirst(t, rod, parts, kerf, cut)
	}
	if many < 500 {
		t.Error("so few pieces have been cut:", many)
	}
}

// checkFirst checks that in place of no piece of a best cut one could stand that comes before it, with a cut behind it that is as good.
func checkFirst(t *testing.T, rod api.Rod, parts []api.Part, kerf int, cut []api.Piece) {
	t.Helper()
	places, rests := placesOf(rod, parts), restsOf(rod, parts, kerf)
	free := 0
	for i, p := range cut {
		for at := free; at <= p.At; at++ {
			for k, q := range parts {
				if !places[k][at] || comparePieces(api.Piece{Part: k, At: at}, p) >= 0 {
					continue
				}
				if behind := rests[at+q.Length+kerf]; behind.price+q.Price >= rests[free].price && behind.pieces+1 <= len(cut)-i {
					t.Fatal(rod, parts, kerf, cut, "could have a piece before", p, at, k)
				}
			}
		}
		free = p.At + parts[p.Part].Length + kerf
	}
}

func TestCutsAtTheLimits(t *testing.T) {
	long := api.Rod{Length: api.MakeLength, Butt: api.MakeGirth, Tip: 1}
	parts := slices.Repeat([]api.Part{anywhere(api.MakeShort, api.MakePrice)}, api.MakeParts)
	cut, price, err := maker.Cut(long, parts, 0)
	if err != api.OK || price != 50*api.MakePrice || len(cut) != 50 {
		t.Fatal(cut, price, err)
	}
	for i, p := range cut {
		if p != (api.Piece{Part: 0, At: i * api.MakeShort}) {
			t.Error(i, p)
		}
	}
	whole := []api.Part{anywhere(api.MakeLength, 1)}
	if cut, price, err := maker.Cut(long, whole, api.MakeKerf); err != api.OK || price != 1 || !slices.Equal(cut, []api.Piece{{}}) {
		t.Error(cut, price, err)
	}
	if n, err := maker.Waste(long, whole, api.MakeKerf, []api.Piece{{}}); err != api.OK || n != 0 {
		t.Error(n, err)
	}
	long.Length--
	if cut, price, err := maker.Cut(long, whole, 0); err != api.OK || price != 0 || len(cut) != 0 {
		t.Error(cut, price, err)
	}
}

// P5.7: With a smaller kerf, the best cut is not worth less. A rod whose Bend is less is not worth less.
func TestLessKerfAndLessBend(t *testing.T) {
	r := rand.New(rand.NewSource(9))
	better := 0
	for range 500 {
		rod, parts, kerf := randomRod(r, 400, 3000), randomParts(r, 1+r.Intn(4), 300), 1+r.Intn(api.MakeKerf)
		_, price, _ := maker.Cut(rod, parts, kerf)
		_, narrow, err := maker.Cut(rod, parts, r.Intn(kerf))
		if err != api.OK || narrow < price {
			t.Fatal(rod, parts, kerf, price, narrow, err)
		}
		straight := rod
		straight.Bend = r.Intn(rod.Bend + 1)
		_, n, err := maker.Cut(straight, parts, kerf)
		if err != api.OK || n < price {
			t.Fatal(rod, parts, kerf, price, straight, n, err)
		}
		if narrow > price || n > price {
			better++
		}
	}
	if better < 50 {
		t.Error("so few cuts are better:", better)
	}
}
