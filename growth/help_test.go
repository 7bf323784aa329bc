package growth_test

import (
	"math"
	"math/rand"
	"slices"

	"greenhew/api"
)

// hazel returns the species h of the chapter.
func hazel() api.Species {
	return api.Species{
		Rise: []int{1000, 500}, Thick: []int{60, 40}, Top: 8000, Stout: 400, Shade: 20, Reach: 1500,
		Ladder:  []api.Rung{{Height: 1000, Shoots: 20}, {Height: 3000, Shoots: 8}},
		Sprouts: []api.Span{{Low: 5, High: 10}, {Low: 10, High: 30}},
	}
}

// chapterSeason returns the season q of the chapter.
func chapterSeason() api.Season {
	return api.Season{Light: span(100, 100), Browse: span(0, 50), Mild: span(100, 150)}
}

func span(low, high int) api.Span { return api.Span{Low: low, High: high} }

func stand(age, shoots, height, girth int) api.Stand {
	return api.Stand{Age: age, Shoots: shoots, Height: height, Girth: girth}
}

func sunny(mild int) api.Weather { return api.Weather{Light: 100, Mild: mild} }

func alone(x api.Stand) api.Box { return api.Box{Low: x, High: x} }

// box returns the box of an age with the spans.
func box(age int, shoots, height, girth api.Span) api.Box {
	return api.Box{Low: stand(age, shoots.Low, height.Low, girth.Low), High: stand(age, shoots.High, height.High, girth.High)}
}

// spans returns the three spans of a box, those of the shoots first.
func spans(b api.Box) [3]api.Span {
	return [3]api.Span{span(b.Low.Shoots, b.High.Shoots), span(b.Low.Height, b.High.Height), span(b.Low.Girth, b.High.Girth)}
}

func boxOf(age int, l [3]api.Span) api.Box { return box(age, l[0], l[1], l[2]) }

func only(w api.Weather) api.Season {
	return api.Season{Light: span(w.Light, w.Light), Browse: span(w.Browse, w.Browse), Mild: span(w.Mild, w.Mild)}
}

func copyOf(s api.Species) api.Species {
	s.Rise, s.Thick = slices.Clone(s.Rise), slices.Clone(s.Thick)
	s.Ladder, s.Sprouts = slices.Clone(s.Ladder), slices.Clone(s.Sprouts)
	return s
}

func sameSpecies(a, b api.Species) bool {
	return slices.Equal(a.Rise, b.Rise) && slices.Equal(a.Thick, b.Thick) && slices.Equal(a.Ladder, b.Ladder) && slices.Equal(a.Sprouts, b.Sprouts) &&
		a.Top == b.Top && a.Stout == b.Stout && a.Shade == b.Shade && a.Reach == b.Reach
}

// yearLater grows a stand word for word as the chapter says.
func yearLater(s api.Species, x api.Stand, w api.Weather) api.Stand {
	l := w.Light - s.Shade
	if l < 0 {
		l = 0
	}
	last := func(table []int) int {
		if x.Age < len(table) {
			return table[x.Age]
		}
		return table[len(table)-1]
	}
	rise := last(s.Rise) * l * w.Mild / (100 * (100 - s.Shade))
	if x.Height < s.Reach {
		rise = rise * (100 - w.Browse) / 100
	}
	y := api.Stand{Age: x.Age + 1, Shoots: x.Shoots, Height: x.Height + rise}
	if y.Height > s.Top {
		y.Height = s.Top
	}
	thick := last(s.Thick) * l * w.Mild / (100 * (100 - s.Shade))
	y.Girth = x.Girth + thick*100/(100+x.Shoots)
	if y.Girth > s.Stout {
		y.Girth = s.Stout
	}
	for i := len(s.Ladder) - 1; i >= 0; i-- {
		if s.Ladder[i].Height <= y.Height {
			if y.Shoots > s.Ladder[i].Shoots {
				y.Shoots = s.Ladder[i].Shoots
			}
			break
		}
	}
	if y.Age > 100000 {
		y.Age = 100000
	}
	return y
}

// sproutsOf returns how many shoots a stool can have that is cut at an age.
func sproutsOf(s api.Species, age int) api.Span {
	if age < len(s.Sprouts) {
		return s.Sprouts[age]
	}
	return s.Sprouts[len(s.Sprouts)-1]
}

func randomTable(r *rand.Rand, most int) []int {
	l := make([]int, 1+r.Intn(5))
	for i := range l {
		l[i] = r.Intn(most + 1)
	}
	return l
}

// partOf returns a span of at most so many numbers that lies in another one.
func partOf(r *rand.Rand, s api.Span, most int) api.Span {
	low := s.Low + r.Intn(s.High-s.Low+1)
	return span(low, min(s.High, low+r.Intn(most)))
}

func randomSpecies(r *rand.Rand) api.Species {
	scale := 1 + r.Intn(400)
	s := api.Species{
		Rise: randomTable(r, min(12*scale, api.GrowthRise)), Thick: randomTable(r, 30), Shade: r.Intn(100),
		Top: 1 + r.Intn(40*scale), Stout: 1 + r.Intn(300), Reach: r.Intn(20 * scale),
	}
	height, shoots := 0, 40
	for range r.Intn(6) {
		height, shoots = height+1+r.Intn(8*scale), shoots-1-r.Intn(8)
		if shoots >= 0 {
			s.Ladder = append(s.Ladder, api.Rung{Height: min(height, api.GrowthHeight), Shoots: shoots})
		}
	}
	for range 1 + r.Intn(4) {
		s.Sprouts = append(s.Sprouts, partOf(r, span(0, 40), 6))
	}
	return s
}

// randomBox returns a box whose spans have at most so many numbers, with numbers that matter for a species.
func randomBox(r *rand.Rand, s api.Species, most int) api.Box {
	near := []int{0, s.Reach, s.Top, r.Intn(s.Top + 1)}
	for _, rung := range s.Ladder {
		near = append(near, rung.Height)
	}
	height := min(max(0, near[r.Intn(len(near))]-r.Intn(2*most)), api.GrowthHeight-most)
	return box(r.Intn(8), partOf(r, span(0, 40), most), partOf(r, span(height, height+most), most), partOf(r, span(0, s.Stout), most))
}

func randomSeason(r *rand.Rand, most int) api.Season {
	q := api.Season{Light: partOf(r, span(0, 100), most), Browse: partOf(r, span(0, 100), most), Mild: partOf(r, span(0, 200), most)}
	if r.Intn(3) > 0 {
		q.Light = partOf(r, span(60, 100), most)
	}
	q.Cut = r.Intn(5) == 0
	return q
}

// randomSeasons returns fewer than so many seasons.
func randomSeasons(r *rand.Rand, end int) []api.Season {
	var l []api.Season
	for range r.Intn(end) {
		l = append(l, randomSeason(r, 60))
	}
	return l
}

func randomIn(r *rand.Rand, s api.Span) int { return s.Low + r.Intn(s.High-s.Low+1) }

func randomInside(r *rand.Rand, b api.Box) api.Stand {
	l := spans(b)
	return stand(b.Low.Age, randomIn(r, l[0]), randomIn(r, l[1]), randomIn(r, l[2]))
}

func randomWeather(r *rand.Rand, q api.Season) api.Weather {
	return api.Weather{Light: randomIn(r, q.Light), Browse: randomIn(r, q.Browse), Mild: randomIn(r, q.Mild)}
}

// trueYear returns what a stand can be after a season, after being cut if the season has a Cut.
func trueYear(r *rand.Rand, s api.Species, x api.Stand, q api.Season) api.Stand {
	if q.Cut {
		x = stand(0, randomIn(r, sproutsOf(s, x.Age)), 0, 0)
	}
	return yearLater(s, x, randomWeather(r, q))
}

// trueSamples returns samples that are true of a stand.
func trueSamples(r *rand.Rand, x api.Stand) []api.Sample {
	var l []api.Sample
	for range r.Intn(4) {
		kind := api.SampleKind(1 + r.Intn(3))
		n := [...]int{0, x.Shoots, x.Height, x.Girth}[kind]
		wide := 1 + r.Intn(1+n/4)
		l = append(l, api.Sample{Kind: kind, Span: span(n-r.Intn(wide), n+r.Intn(wide))})
	}
	return l
}

// odd returns a number that is often out of range.
func odd(r *rand.Rand) int {
	l := []int{math.MinInt, -1, 0, 1, 2, 99, 100, 101, 200, 201, 300, 301, 3000, 3001, 40000, 40001, 100000, 100001, math.MaxInt}
	return l[r.Intn(len(l))]
}
