package growth_test

import (
	"math/rand"
	"slices"
	"testing"

	"greenhew/api"
	"greenhew/growth"
)

func TestSmoothOfTheChapter(t *testing.T) {
	before := box(0, span(30, 30), span(0, 400), span(0, 0))
	h, e := growth.Smooth(hazel(), before, []api.Season{chapterSeason()}, [][]api.Sample{nil, {heightFrom(1700, 1800)}})
	want := []api.Box{box(0, span(30, 30), span(200, 400), span(0, 0)), box(1, span(20, 30), span(1700, 1800), span(46, 69))}
	if e != api.OK || !slices.Equal(h, want) {
		t.Error(h, e)
	}
}

func TestSmoothWithoutSeasons(t *testing.T) {
	b := chapterBox()
	for _, l := range [][]api.Season{nil, {}} {
		h, e := growth.Smooth(hazel(), b, l, [][]api.Sample{{heightFrom(900, 1100), shootsFrom(0, 29)}})
		if e != api.OK || !slices.Equal(h, []api.Box{box(1, span(20, 29), span(900, 1100), span(46, 69))}) {
			t.Error(h, e)
		}
	}
	if h, e := growth.Smooth(hazel(), b, nil, [][]api.Sample{{shootsFrom(0, 19)}}); e != api.ErrNone || len(h) != 0 {
		t.Error(h, e)
	}
}

func TestSmoothWithoutSamplesIsTheHistory(t *testing.T) {
	r := rand.New(rand.NewSource(30))
	for range 500 {
		s := randomSpecies(r)
		b := randomBox(r, s, 300)
		l := randomSeasons(r, 9)
		want, _ := growth.History(s, b, l)
		if h, e := growth.Smooth(s, b, l, make([][]api.Sample, len(l)+1)); e != api.OK || !slices.Equal(h, want) {
			t.Fatal(s, b, l, h, e, want)
		}
	}
}

func TestSmoothInSeveralRounds(t *testing.T) {
	start := box(0, span(10, 40), span(0, 100), span(0, 100))
	year := only(sunny(100))
	// The first round tells that no height reaches the rung, the second one that there were few shoots then, the third one how thin they were.
	h, e := growth.Smooth(plain(), start, []api.Season{year}, [][]api.Sample{nil, {heightFrom(0, 149), shootsFrom(0, 20), girthFrom(0, 60)}})
	want := []api.Box{box(0, span(10, 20), span(0, 49), span(0, 10)), box(1, span(10, 20), span(100, 149), span(50, 60))}
	if e != api.OK || !slices.Equal(h, want) {
		t.Error(h, e)
	}
	// What the last year tells goes back to the first one, and forward to those between.
	h, e = growth.Smooth(plain(), start, []api.Season{year, year, year}, [][]api.Sample{nil, {girthFrom(100, 200)}, nil, {heightFrom(390, 500)}})
	want = []api.Box{
		box(0, span(10, 40), span(90, 100), span(46, 100)), box(1, span(10, 20), span(190, 200), span(100, 154)),
		box(2, span(10, 20), span(290, 300), span(150, 208)), box(3, span(10, 20), span(390, 400), span(200, 262)),
	}
	if e != api.OK || !slices.Equal(h, want) {
		t.Error(h, e)
	}
}

func TestSmoothOverACut(t *testing.T) {
	start := box(5, span(10, 40), span(0, 100), span(0, 100))
	year, cut := only(sunny(100)), only(sunny(100))
	cut.Cut = true
	// Nothing of what comes after a cut tells what was before it.
	h, e := growth.Smooth(plain(), start, []api.Season{year, cut, year}, [][]api.Sample{nil, {heightFrom(180, 300)}, nil, {shootsFrom(3, 4), girthFrom(113, 300)}})
	want := []api.Box{
		box(5, span(10, 40), span(80, 100), span(0, 100)), box(6, span(10, 20), span(180, 200), span(42, 154)),
		box(1, span(3, 4), span(100, 100), span(55, 58)), box(2, span(3, 4), span(200, 200), span(113, 116)),
	}
	if e != api.OK || !slices.Equal(h, want) {
		t.Error(h, e)
	}
}

func TestSmoothOfWhatCannotBe(t *testing.T) {
	start := box(0, span(10, 40), span(0, 100), span(0, 100))
	year := only(sunny(100))
	gap := plain()
	gap.Reach = 50
	for name, c := range map[string]struct {
		s       api.Species
		l       []api.Season
		samples [][]api.Sample
	}{
		"in the first box": {plain(), []api.Season{year}, [][]api.Sample{{shootsFrom(0, 9)}, nil}},
		"in the last box":  {plain(), []api.Season{year, year}, [][]api.Sample{nil, nil, {heightFrom(301, 400)}}},
		"looking back":     {gap, []api.Season{only(api.Weather{Light: 100, Browse: 100, Mild: 100})}, [][]api.Sample{{heightFrom(40, 60)}, {heightFrom(61, 149)}}},
		// More than 20 shoots were below the rung, and what is so high now was not.
		"looking forward": {plain(), []api.Season{year}, [][]api.Sample{nil, {heightFrom(150, 200), shootsFrom(30, 40)}}},
	} {
		if h, e := growth.Smooth(c.s, start, c.l, c.samples); e != api.ErrNone || len(h) != 0 {
			t.Error(name, h, e)
		}
	}
}

func TestSmoothRefuses(t *testing.T) {
	s, b, q := hazel(), alone(api.Stand{Shoots: 30}), chapterSeason()
	fifty, more := slices.Repeat([]api.Sample{heightFrom(0, 3000)}, 50), slices.Repeat([]api.Sample{{}}, 51)
	if _, e := growth.Smooth(s, b, []api.Season{q}, [][]api.Sample{fifty, fifty}); e != api.OK {
		t.Error(e)
	}
	if h, e := growth.Smooth(s, b, make([]api.Season, 100), make([][]api.Sample, 101)); e != api.OK || len(h) != 101 {
		t.Error(len(h), e)
	}
	bad := api.Season{Light: span(2, 1)}
	for name, c := range map[string]struct {
		l       []api.Season
		samples [][]api.Sample
		want    api.Errno
	}{
		"no lists":                   {[]api.Season{q}, nil, api.ErrArg},
		"no list of the only box":    {nil, nil, api.ErrArg},
		"a list less":                {[]api.Season{q}, make([][]api.Sample, 1), api.ErrArg},
		"a list more":                {[]api.Season{q}, make([][]api.Sample, 3), api.ErrArg},
		"nothing left, a list more":  {nil, [][]api.Sample{{shootsFrom(0, 1)}, nil}, api.ErrArg},
		"nothing left, no sample":    {[]api.Season{q}, [][]api.Sample{{shootsFrom(0, 1)}, {{}}}, api.ErrArg},
		"nothing left, no season":    {[]api.Season{bad}, [][]api.Sample{{shootsFrom(0, 1)}, nil}, api.ErrArg},
		"101 seasons":                {make([]api.Season, 101), make([][]api.Sample, 102), api.ErrLong},
		"101 seasons, none of them":  {slices.Repeat([]api.Season{bad}, 101), nil, api.ErrLong},
		"51 samples first":           {[]api.Season{q}, [][]api.Sample{more, nil}, api.ErrLong},
		"51 samples last":            {[]api.Season{bad}, [][]api.Sample{nil, more}, api.ErrLong},
		"51 samples in a wrong list": {[]api.Season{q}, [][]api.Sample{more}, api.ErrLong},
	} {
		if h, e := growth.Smooth(s, b, c.l, c.samples); e != c.want || len(h) != 0 {
			t.Error(name, h, e)
		}
	}
}

// smoothed smooths a history word for word as the chapter says.
func smoothed(s api.Species, b api.Box, l []api.Season, samples [][]api.Sample) ([]api.Box, api.Errno) {
	var h []api.Box
	for i, m := range samples {
		if i > 0 {
			b, _ = growth.Step(s, b, l[i-1])
		}
		c, e := growth.Narrow(b, m...)
		if e != api.OK {
			return nil, e
		}
		h, b = append(h, c), c
	}
	for range 20 {
		before := slices.Clone(h)
		for i := len(l) - 1; i >= 0; i-- {
			c, ok := left(s, h[i], l[i], h[i+1])
			if !ok {
				return nil, api.ErrNone
			}
			h[i] = c
		}
		for i, q := range l {
			c, _ := growth.Step(s, h[i], q)
			n := spans(c)
			c, e := growth.Narrow(h[i+1], shootsFrom(n[0].Low, n[0].High), heightFrom(n[1].Low, n[1].High), girthFrom(n[2].Low, n[2].High))
			if e != api.OK {
				return nil, e
			}
			h[i+1] = c
		}
		if slices.Equal(h, before) {
			break
		}
	}
	return h, api.OK
}

func TestSmoothIsWhatTheChapterSays(t *testing.T) {
	r := rand.New(rand.NewSource(31))
	seen := map[api.Errno]int{}
	for range 3000 {
		s, b, l, samples, _ := randomSurveys(r)
		spoilSamples(r, samples)
		want, none := smoothed(s, b, l, samples)
		h, e := growth.Smooth(s, b, l, samples)
		if e != none || !slices.Equal(h, want) {
			t.Fatalf("%+v, %+v, %+v, %+v: %+v, not %+v; error %d", s, b, l, samples, h, want, e)
		}
		seen[e]++
	}
	if seen[api.OK] < 300 || seen[api.ErrNone] < 300 {
		t.Error("these surveys say little:", seen)
	}
}

// randomSurveys returns a species, a box, seasons, samples that are true of a stand each year, and these stands.
func randomSurveys(r *rand.Rand) (api.Species, api.Box, []api.Season, [][]api.Sample, []api.Stand) {
	s := randomSpecies(r)
	b := randomBox(r, s, 60)
	x := randomInside(r, b)
	samples, stands := [][]api.Sample{trueSamples(r, x)}, []api.Stand{x}
	var l []api.Season
	for range r.Intn(5) {
		q := randomSeason(r, 60)
		x = trueYear(r, s, x, q)
		l, samples, stands = append(l, q), append(samples, trueSamples(r, x)), append(stands, x)
	}
	return s, b, l, samples, stands
}

// spoilSamples shifts some samples, so that they may not be true any more.
func spoilSamples(r *rand.Rand, samples [][]api.Sample) {
	if r.Intn(2) == 0 {
		return
	}
	for _, l := range samples {
		for i := range l {
			shift := r.Intn(7) - 3
			l[i].Span = span(l[i].Span.Low+shift, l[i].Span.High+shift)
		}
	}
}

func TestSmoothKeepsWhatIsTrue(t *testing.T) {
	r := rand.New(rand.NewSource(32))
	for range 5000 {
		s, b, l, samples, stands := randomSurveys(r)
		h, e := growth.Smooth(s, b, l, samples)
		if e != api.OK || len(h) != len(stands) {
			t.Fatal(s, b, l, samples, h, e)
		}
		for i, x := range stands {
			if !growth.Inside(h[i], x) {
				t.Fatalf("%+v, %+v, %+v, %+v: %+v is not in %+v", s, b, l, samples, x, h[i])
			}
		}
	}
}
