package maker

import (
	"cmp"

	"greenhew/api"
)

// Girth compares the girth at a place with a number of millimeters.
func Girth(r api.Rod, place, girth int) (int, api.Errno) {
	if !areRods(r) || !within(place, 0, r.Length) || !within(girth, 0, api.MakeGirth) {
		return 0, api.ErrArg
	}
	return compareGirth(r, place, girth), api.OK
}

// Bulk returns the bulk between two places.
func Bulk(r api.Rod, from, to int) (int, api.Errno) {
	if !areRods(r) || !areEnds(r, from, to) {
		return 0, api.ErrArg
	}
	return bulkBetween(r, from, to), api.OK
}

// Bark returns the bark between two places.
func Bark(r api.Rod, from, to int) (int, api.Errno) {
	if !areRods(r) || !areEnds(r, from, to) {
		return 0, api.ErrArg
	}
	return barkUpTo(r, to) - barkUpTo(r, from), api.OK
}

// areEnds reports whether two numbers are places of a rod, of which the second one is not before the first one.
func areEnds(r api.Rod, from, to int) bool { return within(to, 0, r.Length) && within(from, 0, to) }

// girthTimesLength returns the girth at a place, times the Length of the rod, since that is an integer.
func girthTimesLength(r api.Rod, place int) int { return r.Butt*r.Length - (r.Butt-r.Tip)*place }

func compareGirth(r api.Rod, place, girth int) int {
	return cmp.Compare(girthTimesLength(r, place), girth*r.Length)
}

func bulkBetween(r api.Rod, from, to int) int { return bulkUpTo(r, to) - bulkUpTo(r, from) }

func bulkUpTo(r api.Rod, place int) int {
	butt, here := girthTimesLength(r, 0), girthTimesLength(r, place)
	// At the limits of a rod this is 3 * 10^18, which an int just holds.
	return place * (butt*butt + butt*here + here*here) / (3 * r.Length * r.Length)
}

func barkUpTo(r api.Rod, place int) int {
	return place * (girthTimesLength(r, 0) + girthTimesLength(r, place)) / (2 * r.Length)
}
