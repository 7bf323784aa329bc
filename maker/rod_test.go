package maker_test

import (
	"math"
	"math/big"
	"math/rand"
	"testing"

	"greenhew/api"
	"greenhew/maker"
)

func TestGirthsOfTheChapter(t *testing.T) {
	for _, c := range []struct{ place, girth, want int }{
		{400, 80, 0}, {401, 80, -1}, {399, 80, 1}, {0, 100, 0}, {0, 101, -1}, {0, 99, 1}, {1000, 50, 0}, {1000, 51, -1}, {1000, 49, 1}, {999, 50, 1},
		{1, 99, 1}, {1, 100, -1}, {0, 0, 1}, {0, 1000, -1},
	} {
		if n, err := maker.Girth(chapterRod(), c.place, c.girth); err != api.OK || n != c.want {
			t.Error(c, n, err)
		}
	}
}

func TestGirthsAgainstTheChapter(t *testing.T) {
	r := rand.New(rand.NewSource(1))
	equal := 0
	for range 30000 {
		rod := randomRod(r, 1, 100)
		place, girth := r.Intn(rod.Length+1), r.Intn(14)
		want := girthAt(rod, place).Cmp(big.NewRat(int64(girth), 1))
		if n, err := maker.Girth(rod, place, girth); err != api.OK || n != want {
			t.Fatal(rod, place, girth, n, err, want)
		}
		if want == 0 {
			equal++
		}
	}
	if equal < 200 {
		t.Error("so few girths are equal:", equal)
	}
}

func TestGirthsOfOtherPlaces(t *testing.T) {
	rod := chapterRod()
	for _, c := range []struct{ place, girth int }{
		{-1, 50}, {1001, 50}, {math.MinInt, 50}, {math.MaxInt, 50}, {0, -1}, {0, api.MakeGirth + 1}, {0, math.MinInt}, {0, math.MaxInt}, {-1, -1},
	} {
		if n, err := maker.Girth(rod, c.place, c.girth); err != api.ErrArg || n != 0 {
			t.Error(c, n, err)
		}
	}
}

func TestBulkAndBarkOfTheChapter(t *testing.T) {
	rod := chapterRod()
	for _, c := range []struct{ from, to, bulk, bark int }{
		{0, 1000, 5833333, 75000},
		{0, 500, 3854166, 43750},
		{500, 1000, 1979167, 31250},
		{7, 7, 0, 0},
		{0, 0, 0, 0},
		{1000, 1000, 0, 0},
		// 10000 - 5 and a third of a hundredth, rounded down; 100 - a fortieth, rounded down
		{0, 1, 9995, 99},
	} {
		if n, err := maker.Bulk(rod, c.from, c.to); err != api.OK || n != c.bulk {
			t.Error("bulk:", c, n, err)
		}
		if n, err := maker.Bark(rod, c.from, c.to); err != api.OK || n != c.bark {
			t.Error("bark:", c, n, err)
		}
	}
}

func TestBulkAndBarkOfAPole(t *testing.T) {
	rod := pole(800)
	if n, err := maker.Bulk(rod, 100, 700); err != api.OK || n != 600*50*50 {
		t.Error(n, err)
	}
	if n, err := maker.Bark(rod, 100, 700); err != api.OK || n != 600*50 {
		t.Error(n, err)
	}
}

func TestBulkAndBarkAtTheLimits(t *testing.T) {
	for _, rod := range []api.Rod{
		{Length: api.MakeLength, Butt: api.MakeGirth, Tip: api.MakeGirth, Bend: api.MakeBend},
		{Length: api.MakeLength, Butt: api.MakeGirth, Tip: 1},
		{Length: api.MakeLength, Butt: 1, Tip: 1},
		{Length: 1, Butt: api.MakeGirth, Tip: 1},
		{Length: 1, Butt: 1, Tip: 1},
	} {
		for _, place := range []int{0, 1, rod.Length / 2, rod.Length} {
			checkUpTo(t, rod, place)
		}
	}
	most := api.Rod{Length: api.MakeLength, Butt: api.MakeGirth, Tip: api.MakeGirth}
	if n, err := maker.Bulk(most, 0, api.MakeLength); err != api.OK || n != 10_000_000_000 {
		t.Error(n, err)
	}
}

// checkUpTo compares bulk and bark on both sides of a place with the chapter.
func checkUpTo(t *testing.T, rod api.Rod, place int) {
	t.Helper()
	bulk, bark := upTo(rod, place)
	allBulk, allBark := upTo(rod, rod.Length)
	for _, c := range []struct{ from, to, bulk, bark int }{{0, place, bulk, bark}, {place, rod.Length, allBulk - bulk, allBark - bark}} {
		if n, err := maker.Bulk(rod, c.from, c.to); err != api.OK || n != c.bulk {
			t.Fatal("bulk:", rod, c, n, err)
		}
		if n, err := maker.Bark(rod, c.from, c.to); err != api.OK || n != c.bark {
			t.Fatal("bark:", rod, c, n, err)
		}
	}
}

func TestBulkAndBarkAgainstTheChapter(t *testing.T) {
	r := rand.New(rand.NewSource(2))
	for range 5000 {
		rod := randomRod(r, 1, 10000)
		if r.Intn(2) == 0 {
			rod.Butt = rod.Tip + r.Intn(api.MakeGirth-rod.Tip+1)
		}
		checkUpTo(t, rod, r.Intn(rod.Length+1))
	}
}

func TestBulkAndBarkAreAdded(t *testing.T) {
	r := rand.New(rand.NewSource(3))
	for range 3000 {
		rod := randomRod(r, 1, 300)
		a := r.Intn(rod.Length + 1)
		b := a + r.Intn(rod.Length-a+1)
		c := b + r.Intn(rod.Length-b+1)
		for name, f := range map[string]func(api.Rod, int, int) (int, api.Errno){"bulk": maker.Bulk, "bark": maker.Bark} {
			first, _ := f(rod, a, b)
			second, _ := f(rod, b, c)
			both, err := f(rod, a, c)
			if err != api.OK || both != first+second || first < 0 || second < 0 {
				t.Fatal(name, rod, a, b, c, first, second, both, err)
			}
		}
	}
}

func TestBulkAndBarkOfOtherPlaces(t *testing.T) {
	for _, c := range []struct{ from, to int }{
		{5, 4}, {-1, 4}, {-2, -1}, {0, 1001}, {1001, 1001}, {1000, 999}, {math.MinInt, math.MaxInt}, {math.MaxInt, math.MinInt}, {0, math.MaxInt}, {math.MinInt, 0},
	} {
		if n, err := maker.Bulk(chapterRod(), c.from, c.to); err != api.ErrArg || n != 0 {
			t.Error("bulk:", c, n, err)
		}
		if n, err := maker.Bark(chapterRod(), c.from, c.to); err != api.ErrArg || n != 0 {
			t.Error("bark:", c, n, err)
		}
	}
}
