package coupe_test

import (
	"cmp"
	"iter"
	"math"
	"math/rand"
	"slices"

	"greenhew/api"
)

// chapterCycle returns the cycle c of the chapter.
func chapterCycle() api.Cycle {
	return api.Cycle{
		Coupes: []api.Coupe{
			{Age: 2, Yields: []int{0, 1, 3, 5}, Least: 2, Most: 3},
			{Age: 1, Yields: []int{0, 2, 4}, Least: 1, Most: 2},
		},
		Hands: 1,
	}
}

// coupesOf returns coupes of the age 0 with these greatest ages, whose yields are their ages.
func coupesOf(most ...int) []api.Coupe {
	var l []api.Coupe
	for _, m := range most {
		k := api.Coupe{Least: 1, Most: m}
		for age := range m + 1 {
			k.Yields = append(k.Yields, age)
		}
		l = append(l, k)
	}
	return l
}

// tooManyStates returns a cycle that is as defined but for its states.
func tooManyStates() api.Cycle { return api.Cycle{Coupes: coupesOf(21, 25, 34), Hands: 1} }

func copyOf(c api.Cycle) api.Cycle {
	c.Coupes, c.Habitats = slices.Clone(c.Coupes), slices.Clone(c.Habitats)
	for i := range c.Coupes {
		c.Coupes[i].Yields = slices.Clone(c.Coupes[i].Yields)
	}
	return c
}

func sameCycle(a, b api.Cycle) bool {
	sameCoupe := func(a, b api.Coupe) bool {
		return a.Age == b.Age && a.Least == b.Least && a.Most == b.Most && slices.Equal(a.Yields, b.Yields)
	}
	return a.Hands == b.Hands && slices.EqualFunc(a.Coupes, b.Coupes, sameCoupe) && slices.Equal(a.Habitats, b.Habitats)
}

func beginning(c api.Cycle) []int {
	var l []int
	for _, k := range c.Coupes {
		l = append(l, k.Age)
	}
	return l
}

// turn is a choice that is allowed with some ages.
type turn struct {
	choice int
	next   []int
	yield  int
}

// turnOf follows the chapter word for word: what a choice comes to, and whether it is allowed.
func turnOf(c api.Cycle, ages []int, choice int) (turn, bool) {
	if choice < 0 || choice >= int(math.Pow(2, float64(len(ages)))) {
		return turn{}, false
	}
	t, cut := turn{choice: choice}, 0
	for i, age := range ages {
		if choice&(1<<i) != 0 {
			if age < c.Coupes[i].Least {
				return turn{}, false
			}
			cut++
			t.next, t.yield = append(t.next, 0), t.yield+c.Coupes[i].Yields[age]
		} else {
			if age == c.Coupes[i].Most {
				return turn{}, false
			}
			t.next = append(t.next, age+1)
		}
	}
	for _, h := range c.Habitats {
		there := 0
		for _, age := range t.next {
			if h.From <= age && age <= h.To {
				there++
			}
		}
		if there < h.Need {
			return turn{}, false
		}
	}
	return t, cut <= c.Hands
}

// turns returns what all choices that are allowed come to and yield at least a floor.
func turns(c api.Cycle, ages []int, floor int) []turn {
	var l []turn
	for choice := range 64 {
		if t, ok := turnOf(c, ages, choice); ok && t.yield >= floor {
			l = append(l, t)
		}
	}
	return l
}

// plansOf yields all plans for some years, in lexicographic order.
func plansOf(c api.Cycle, years int) iter.Seq[api.Cutting] {
	return func(yield func(api.Cutting) bool) {
		var p api.Cutting
		var on func(ages []int) bool
		on = func(ages []int) bool {
			if len(p.Choices) == years {
				return yield(p)
			}
			for _, t := range turns(c, ages, 0) {
				p.Choices, p.Yields = append(p.Choices, t.choice), append(p.Yields, t.yield)
				if !on(t.next) {
					return false
				}
				p.Choices, p.Yields = p.Choices[:len(p.Choices)-1], p.Yields[:len(p.Yields)-1]
			}
			return true
		}
		on(beginning(c))
	}
}

func sumOf(l []int) int {
	n := 0
	for _, x := range l {
		n += x
	}
	return n
}

// leastOf returns the least yield of a plan; that of one for no years is as great as can be.
func leastOf(p api.Cutting) int {
	least := math.MaxInt
	for _, n := range p.Yields {
		least = min(least, n)
	}
	return least
}

// comparePlans tells which one of two plans is better.
func comparePlans(a, b api.Cutting) int {
	return cmp.Or(cmp.Compare(leastOf(a), leastOf(b)), cmp.Compare(sumOf(a.Yields), sumOf(b.Yields)))
}

// firstBest goes through all plans for some years.
func firstBest(c api.Cycle, years int) (api.Cutting, bool) {
	var best api.Cutting
	found := false
	for p := range plansOf(c, years) {
		if !found || comparePlans(p, best) > 0 {
			best, found = api.Cutting{Choices: slices.Clone(p.Choices), Yields: slices.Clone(p.Yields)}, true
		}
	}
	return best, found
}

// greatestSum goes through all plans with yields that are all at least a floor; -1 if there are none.
func greatestSum(c api.Cycle, years, floor int) int {
	best := -1
	for p := range plansOf(c, years) {
		if leastOf(p) >= floor {
			best = max(best, sumOf(p.Yields))
		}
	}
	return best
}

// at returns a cycle with other ages.
func at(c api.Cycle, ages []int) api.Cycle {
	c = copyOf(c)
	for i, age := range ages {
		c.Coupes[i].Age = age
	}
	return c
}

// keyOf returns ages as a key of maps.
func keyOf(ages []int) [6]int {
	var k [6]int
	copy(k[:], ages)
	return k
}

// allAges returns all ages of a cycle in lexicographic order.
func allAges(c api.Cycle) [][]int {
	l := [][]int{nil}
	for _, k := range c.Coupes {
		var longer [][]int
		for _, ages := range l {
			for age := range k.Most + 1 {
				longer = append(longer, append(slices.Clone(ages), age))
			}
		}
		l = longer
	}
	return l
}

// randomCycle returns a cycle of at most so many coupes, with small numbers.
func randomCycle(r *rand.Rand, coupes int) api.Cycle {
	c := api.Cycle{Hands: min(6, r.Intn(4)+r.Intn(4))}
	many := 1 + r.Intn(coupes)
	for range many {
		k := api.Coupe{Most: 1 + r.Intn(4)}
		k.Least, k.Age = 1+r.Intn(k.Most), r.Intn(k.Most+1)
		for range k.Most + 1 {
			k.Yields = append(k.Yields, r.Intn(7))
		}
		c.Coupes = append(c.Coupes, k)
	}
	for range r.Intn(3) {
		h := api.Habitat{From: r.Intn(5), Need: r.Intn(1 + (many+1)/2)}
		h.To = h.From + r.Intn(4)
		c.Habitats = append(c.Habitats, h)
	}
	return c
}

// odd returns a number that is often out of range.
func odd(r *rand.Rand) int {
	l := []int{math.MinInt, -2, -1, 0, 1, 2, 3, 6, 7, 8, 30, 31, 40, 41, 60, 61, 63, 64, 10000, 10001, 100000, 100001, 1000000, 1000001, math.MaxInt - 1, math.MaxInt}
	return l[r.Intn(len(l))]
}
