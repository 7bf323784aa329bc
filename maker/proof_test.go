package maker_test

import (
	"math"
	"math/rand"
	"slices"
	"testing"

	"greenhew/api"
	"greenhew/maker"
)

func TestProofsOfTheChapter(t *testing.T) {
	r, parts := chapterRod(), chapterParts()
	proof, err := maker.Proof(r, parts, 10)
	if err != api.OK || !slices.Equal(proof, []api.Worth{{From: 0, Value: 8}, {From: 201, Value: 3}, {From: 701, Value: 0}}) {
		t.Error(proof, err)
	}
	for name, c := range map[string]struct {
		proof []api.Worth
		bound int
	}{
		"the least":           {proof, 8},
		"more of all":         {[]api.Worth{{From: 0, Value: 9}, {From: 201, Value: 4}, {From: 701, Value: 1}}, 9},
		"more values":         {[]api.Worth{{From: 0, Value: 8}, {From: 1, Value: 8}, {From: 201, Value: 3}, {From: 701, Value: 0}, {From: 1000, Value: 0}}, 8},
		"as late as can be":   {[]api.Worth{{From: 0, Value: 8}, {From: 410, Value: 3}, {From: 710, Value: 0}}, 8},
		"more than is needed": {[]api.Worth{{From: 0, Value: 9}, {From: 300, Value: 4}, {From: 709, Value: 1}, {From: 710, Value: 0}}, 9},
		"a greater bound":     {[]api.Worth{{From: 0, Value: 100}, {From: 1, Value: 8}, {From: 201, Value: 3}, {From: 701, Value: 0}}, 100},
	} {
		if bound, ok := maker.Proves(r, parts, 10, c.proof); !ok || bound != c.bound {
			t.Error(name, bound, ok)
		}
	}
}

func TestProofsThatAreNotValid(t *testing.T) {
	for name, proof := range map[string][]api.Worth{
		"none":                        nil,
		"not from the butt":           {{From: 1, Value: 8}},
		"from before the butt":        {{From: -1, Value: 8}, {From: 0, Value: 8}},
		"a place twice":               {{From: 0, Value: 8}, {From: 0, Value: 8}},
		"places that go back":         {{From: 0, Value: 8}, {From: 201, Value: 8}, {From: 200, Value: 8}},
		"a place beyond the tip":      {{From: 0, Value: 8}, {From: 201, Value: 3}, {From: 701, Value: 0}, {From: 1001, Value: 0}},
		"the greatest place":          {{From: 0, Value: 8}, {From: math.MaxInt, Value: 0}},
		"values that grow":            {{From: 0, Value: 8}, {From: 201, Value: 9}},
		"a value less than 0":         {{From: 0, Value: 8}, {From: 201, Value: 3}, {From: 701, Value: -1}},
		"only values less than 0":     {{From: 0, Value: -1}},
		"the least value":             {{From: 0, Value: math.MinInt}},
		"too little at the butt":      {{From: 0, Value: 7}, {From: 201, Value: 3}, {From: 701, Value: 0}},
		"a place too early":           {{From: 0, Value: 8}, {From: 200, Value: 3}, {From: 701, Value: 0}},
		"a place too early, behind":   {{From: 0, Value: 8}, {From: 201, Value: 3}, {From: 700, Value: 0}},
		"too little for the last one": {{From: 0, Value: 8}, {From: 201, Value: 2}, {From: 701, Value: 0}},
		"a place too late":            {{From: 0, Value: 8}, {From: 411, Value: 3}, {From: 710, Value: 0}},
		"a place too late, behind":    {{From: 0, Value: 8}, {From: 201, Value: 3}, {From: 711, Value: 0}},
		"all the same":                {{From: 0, Value: 8}},
		"nothing":                     {{From: 0, Value: 0}},
	} {
		if bound, ok := maker.Proves(chapterRod(), chapterParts(), 10, proof); ok || bound != 0 {
			t.Error(name, bound, ok)
		}
	}
}

// Sums of such values and prices would not be numbers.
func TestProofsWithGreatValues(t *testing.T) {
	r, parts := pole(500), []api.Part{anywhere(200, 1)}
	for name, c := range map[string]struct {
		proof []api.Worth
		bound int
		ok    bool
	}{
		"the same everywhere":   {[]api.Worth{{From: 0, Value: math.MaxInt}}, 0, false},
		"one less":              {[]api.Worth{{From: 0, Value: math.MaxInt}, {From: 200, Value: math.MaxInt - 1}}, 0, false},
		"less for each piece":   {[]api.Worth{{From: 0, Value: math.MaxInt}, {From: 101, Value: math.MaxInt - 1}, {From: 301, Value: math.MaxInt - 2}}, math.MaxInt, true},
		"much less behind":      {[]api.Worth{{From: 0, Value: math.MaxInt}, {From: 101, Value: 2}, {From: 301, Value: 1}}, math.MaxInt, true},
		"almost the same, late": {[]api.Worth{{From: 0, Value: math.MaxInt}, {From: 102, Value: 2}, {From: 301, Value: 1}}, math.MaxInt, true},
	} {
		if bound, ok := maker.Proves(r, parts, 0, c.proof); ok != c.ok || bound != c.bound {
			t.Error(name, bound, ok)
		}
	}
	free := []api.Part{anywhere(200, 0)}
	if bound, ok := maker.Proves(r, free, 0, []api.Worth{{From: 0, Value: math.MaxInt}}); !ok || bound != math.MaxInt {
		t.Error(bound, ok)
	}
}

// The tip is a place of the rod, of which a proof says something; of what is beyond, it says 0.
func TestWhatAProofSaysOfTheTip(t *testing.T) {
	r, parts := pole(200), []api.Part{anywhere(200, 1)}
	for name, c := range map[string]struct {
		kerf  int
		proof []api.Worth
		ok    bool
	}{
		"the least proof":           {0, []api.Worth{{From: 0, Value: 1}, {From: 1, Value: 0}}, true},
		"0 at the tip":              {0, []api.Worth{{From: 0, Value: 1}, {From: 200, Value: 0}}, true},
		"more than 0 at the tip":    {0, []api.Worth{{From: 0, Value: 1}}, false},
		"the next piece is beyond":  {1, []api.Worth{{From: 0, Value: 1}}, true},
		"the price more at the tip": {0, []api.Worth{{From: 0, Value: 2}, {From: 200, Value: 1}}, true},
	} {
		want := 0
		if c.ok {
			want = c.proof[0].Value
		}
		if bound, ok := maker.Proves(r, parts, c.kerf, c.proof); ok != c.ok || bound != want {
			t.Error(name, bound, ok)
		}
	}
}

func TestProofsOfRodsWithoutACut(t *testing.T) {
	bent := chapterRod()
	bent.Bend = 21
	for _, r := range []api.Rod{bent, pole(100), pole(1)} {
		if proof, err := maker.Proof(r, chapterParts(), 0); err != api.OK || !slices.Equal(proof, []api.Worth{{}}) {
			t.Error(r, proof, err)
		}
		if bound, ok := maker.Proves(r, chapterParts(), 0, []api.Worth{{}}); !ok || bound != 0 {
			t.Error(r, bound, ok)
		}
	}
}

// mostFrom returns the greatest price of a right cut that begins at each place of a rod or behind it.
func mostFrom(rod api.Rod, parts []api.Part, kerf int) []int {
	most := make([]int, rod.Length+1)
	for cut, price := range rightCuts(rod, parts, kerf) {
		if len(cut) > 0 {
			most[cut[0].At] = max(most[cut[0].At], price)
		}
	}
	for at := rod.Length - 1; at >= 0; at-- {
		most[at] = max(most[at], most[at+1])
	}
	return most
}

func TestProofsAgainstAllCuts(t *testing.T) {
	r := rand.New(rand.NewSource(10))
	values := 0
	for range 300 {
		rod, parts, kerf := randomRod(r, 150, 540), randomParts(r, 1+r.Intn(3), 230), randomKerf(r)
		proof, err := maker.Proof(rod, parts, kerf)
		if err != api.OK || !isValid(rod, parts, kerf, proof) {
			t.Fatal(rod, parts, kerf, proof, err)
		}
		_, price, _ := maker.Cut(rod, parts, kerf)
		if bound, ok := maker.Proves(rod, parts, kerf, proof); !ok || bound != price {
			t.Fatal(rod, parts, kerf, proof, bound, ok, price)
		}
		// Less than the price of some cut cannot be said.
		for at, most := range mostFrom(rod, parts, kerf) {
			if saysOf(rod, proof, at) != most {
				t.Fatal(rod, parts, kerf, proof, at, most)
			}
		}
		for i := 1; i < len(proof); i++ {
			if proof[i].Value == proof[i-1].Value {
				t.Fatal("a value too many:", rod, parts, kerf, proof)
			}
		}
		values += len(proof) - 1
	}
	if values < 200 {
		t.Error("so few values in the proofs:", values)
	}
}

// spoiled returns a proof of which one value or place is a bit different.
func spoiled(r *rand.Rand, proof []api.Worth) []api.Worth {
	proof = slices.Clone(proof)
	i := r.Intn(len(proof))
	switch r.Intn(6) {
	case 0:
		proof[i].Value--
	case 1:
		proof[i].From--
	case 2:
		proof[i].From++
	case 3:
		proof = slices.Delete(proof, i, i+1)
	case 4:
		proof = append(proof, api.Worth{From: proof[len(proof)-1].From + r.Intn(3), Value: r.Intn(2)})
	default:
		proof[i].Value++
	}
	return proof
}

// P5.4: No right cut has a greater price than the bound of a valid proof; nor does one say less than the least one.
func TestProvesAgainstTheChapter(t *testing.T) {
	r := rand.New(rand.NewSource(11))
	valid, not := 0, 0
	for range 800 {
		rod, parts, kerf := randomRod(r, 300, 1500), randomParts(r, 1+r.Intn(3), 300), randomKerf(r)
		least, _ := maker.Proof(rod, parts, kerf)
		_, price, _ := maker.Cut(rod, parts, kerf)
		proof := spoiled(r, least)
		for range r.Intn(3) {
			if len(proof) > 0 {
				proof = spoiled(r, proof)
			}
		}
		bound, ok := maker.Proves(rod, parts, kerf, proof)
		if ok != isValid(rod, parts, kerf, proof) || !ok && bound != 0 || ok && (bound != proof[0].Value || bound < price) {
			t.Fatal(rod, parts, kerf, proof, bound, ok, price)
		}
		if !ok {
			not++
			continue
		}
		valid++
		for at := range rod.Length + 1 {
			if saysOf(rod, proof, at) < saysOf(rod, least, at) {
				t.Fatal(rod, parts, kerf, proof, "says less than", least, "at", at)
			}
		}
	}
	if valid < 50 || not < 100 {
		t.Error("so few proofs are valid, or not:", valid, not)
	}
}

func TestProofsAtTheLimits(t *testing.T) {
	rod := api.Rod{Length: api.MakeLength, Butt: api.MakeGirth, Tip: 1}
	parts := slices.Repeat([]api.Part{anywhere(api.MakeShort, api.MakePrice)}, api.MakeParts)
	proof, err := maker.Proof(rod, parts, 0)
	if err != api.OK || len(proof) != 51 {
		t.Fatal(proof, err)
	}
	for i, w := range proof {
		if want := (api.Worth{From: max(0, (i-1)*api.MakeShort+1), Value: (50 - i) * api.MakePrice}); w != want {
			t.Error(i, w, want)
		}
	}
	var long []api.Worth
	for at := range api.MakeLength + 1 {
		long = append(long, api.Worth{From: at, Value: (50 - (at+api.MakeShort-1)/api.MakeShort) * api.MakePrice})
	}
	if bound, ok := maker.Proves(rod, parts, 0, long); !ok || bound != 50*api.MakePrice {
		t.Error(bound, ok)
	}
	if bound, ok := maker.Proves(rod, parts, 0, append(long, api.Worth{From: api.MakeLength + 1})); ok || bound != 0 {
		t.Error(bound, ok)
	}
}
