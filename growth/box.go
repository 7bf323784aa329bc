package growth

import "greenhew/api"

// kinds has what can be measured of a stand, in the order of the numbers.
var kinds = [...]api.SampleKind{api.SampleShoots, api.SampleHeight, api.SampleGirth}

// number returns where a stand has its number of a kind.
func number(x *api.Stand, k api.SampleKind) *int {
	switch k {
	case api.SampleShoots:
		return &x.Shoots
	case api.SampleHeight:
		return &x.Height
	default:
		return &x.Girth
	}
}

// spanOf returns the numbers of a kind that stands inside a box can have.
func spanOf(b api.Box, k api.SampleKind) api.Span {
	return api.Span{Low: *number(&b.Low, k), High: *number(&b.High, k)}
}

// keep returns a box of only those stands inside of a box whose number of a kind is in a span, and whether there are any.
func keep(b api.Box, k api.SampleKind, s api.Span) (api.Box, bool) {
	low, high := number(&b.Low, k), number(&b.High, k)
	*low, *high = max(*low, s.Low), min(*high, s.High)
	if *low > *high {
		return api.Box{}, false
	}
	return b, true
}

// narrow returns a box of only those stands inside of a box for which all samples are true, and whether there are any.
func narrow(b api.Box, samples []api.Sample) (api.Box, bool) {
	left := true
	for _, sample := range samples {
		if b, left = keep(b, sample.Kind, sample.Span); !left {
			break
		}
	}
	return b, left
}

// common returns the box of the stands that are inside of two boxes, and whether there are any.
func common(a, b api.Box) (api.Box, bool) {
	left := a.Low.Age == b.Low.Age
	for _, k := range kinds {
		if !left {
			return api.Box{}, false
		}
		a, left = keep(a, k, spanOf(b, k))
	}
	return a, left
}

// first returns the first number of a span for which the answer to a question is yes, or the number after the span if there is none. After a yes, the answer has to be yes for all greater numbers.
func first[N ~int](low, high N, ask func(N) bool) N {
	for low <= high {
		middle := low + (high-low)/2
		if ask(middle) {
			high = middle - 1
		} else {
			low = middle + 1
		}
	}
	return low
}
