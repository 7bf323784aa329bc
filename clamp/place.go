package clamp

import (
	"iter"

	"greenhew/api"
)

// place is where a cell of a clamp lies.
type place struct{ column, course int }

func placeOf(c api.Clamp, cell int) place { return place{column: cell % c.Wide, course: cell / c.Wide} }

func isBorder(c api.Clamp, cell int) bool {
	p := placeOf(c, cell)
	return p.column == 0 || p.column == c.Wide-1 || p.course == 0 || p.course == c.High-1
}

// distance returns the distance of two cells.
func distance(c api.Clamp, one, other int) int {
	p, q := placeOf(c, one), placeOf(c, other)
	return max(p.column-q.column, q.column-p.column) + max(p.course-q.course, q.course-p.course)
}

// cells yields all cells of a clamp by their indexes, with their places.
func cells(c api.Clamp) iter.Seq2[int, place] {
	return func(yield func(int, place) bool) {
		for course := range c.High {
			for column := range c.Wide {
				if !yield(course*c.Wide+column, place{column, course}) {
					return
				}
			}
		}
	}
}

// neighbors yields each two neighbors of a clamp once.
func neighbors(c api.Clamp) iter.Seq2[int, int] {
	return func(yield func(int, int) bool) {
		for cell, p := range cells(c) {
			if p.column+1 < c.Wide && !yield(cell, cell+1) {
				return
			}
			if p.course+1 < c.High && !yield(cell, cell+c.Wide) {
				return
			}
		}
	}
}
