package maker

import (
	"iter"

	"greenhew/api"
)

// counts is how many there are of each part; of parts that are not given, there are none.
type counts [api.MakeKinds]int

func countsOf(l []int) counts {
	var c counts
	copy(c[:], l)
	return c
}

func (c counts) times(n int) counts {
	for i := range c {
		c[i] *= n
	}
	return c
}

func (c counts) minus(o counts) counts {
	for i := range c {
		c[i] -= o[i]
	}
	return c
}

// pairs yields all counts that are at most these and have none of the last part.
func (c counts) pairs() iter.Seq[counts] {
	return func(yield func(counts) bool) {
		for first := range c[0] + 1 {
			for second := range c[1] + 1 {
				if !yield(counts{first, second}) {
					return
				}
			}
		}
	}
}

// all yields all counts that are at most these. Those that are less than others come before them.
func (c counts) all() iter.Seq[counts] {
	return func(yield func(counts) bool) {
		for some := range c.pairs() {
			for last := range c[2] + 1 {
				some[2] = last
				if !yield(some) {
					return
				}
			}
		}
	}
}

// great is a number that is greater than all that can be wanted of a part.
const great = api.MakeMany*api.MakeWares + 1

// reach is a set of counts with all that are less than one of them. For so many of the first and the second part, it holds how many of the last one are too many: none at all are, if the first two are too many themselves.
type reach [great][great]int

func (r *reach) has(c counts) bool { return c[2] < r[c[0]][c[1]] }

// last returns the greatest number of the last part beside so many of the others that are in the set.
func (r *reach) last(pair counts) int { return r[pair[0]][pair[1]] - 1 }

// add adds counts; all that are less must be there already, or be added too.
func (r *reach) add(c counts) { r[c[0]][c[1]] = max(r[c[0]][c[1]], c[2]+1) }

// plus returns all sums of counts of two sets, as far as they are at most some counts.
func (r *reach) plus(o *reach, most counts) *reach {
	sums := new(reach)
	for own := range most.pairs() {
		if !r.has(own) {
			continue
		}
		for other := range most.minus(own).pairs() {
			if o.has(other) {
				sums.add(counts{own[0] + other[0], own[1] + other[1], min(most[2], r.last(own)+o.last(other))})
			}
		}
	}
	return sums
}
