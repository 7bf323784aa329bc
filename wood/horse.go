package wood

import (
	"container/heap"
	"sort"

	"greenhew/api"
)

// Horse returns the best way of a horse with a load from a cell to another one, and its effort.
func Horse(m api.WoodMap, from, to, load, wet int) ([]int, int, api.Errno) {
	t, ok := plan(m, to, load, wet)
	if !ok || !t.hasCell(from) {
		return nil, 0, api.ErrArg
	}
	costs := t.costs()
	if costs[from].cells == 0 {
		return nil, 0, api.ErrNone
	}
	return t.follow(from, costs), costs[from].effort, api.OK
}

// Efforts returns, for each cell, the effort of the best way from it to a cell, or -1.
func Efforts(m api.WoodMap, to, load, wet int) ([]int, api.Errno) {
	t, ok := plan(m, to, load, wet)
	if !ok {
		return nil, api.ErrArg
	}
	efforts := make([]int, len(t.Cells))
	for i, c := range t.costs() {
		efforts[i] = c.effort
		if c.cells == 0 {
			efforts[i] = -1
		}
	}
	return efforts, api.OK
}

// Greatest returns the greatest load with which there is a way from a cell to another one.
func Greatest(m api.WoodMap, from, to, wet int) (int, api.Errno) {
	t, ok := plan(m, to, 1, wet)
	if !ok || !t.hasCell(from) {
		return 0, api.ErrArg
	}
	// Where a load goes, each lesser one goes too.
	greatest := sort.Search(maxLoad, func(i int) bool {
		t.load = i + 1
		return t.costs()[from].cells == 0
	})
	if greatest == 0 {
		return 0, api.ErrNone
	}
	return greatest, api.OK
}

// maxLoad is the greatest load of a horse.
const maxLoad = 100

// trip is what a horse has to do on the ground: to bring a load to a cell at a wetness.
type trip struct {
	ground
	to, load, wet int
}

// plan returns a trip, and whether all that it is about is as defined.
func plan(m api.WoodMap, to, load, wet int) (trip, bool) {
	g, ok := survey(m)
	if !ok || !g.hasCell(to) || !within(load, 1, maxLoad) || !within(wet, 0, 9) {
		return trip{}, false
	}
	return trip{ground: g, to: to, load: load, wet: wet}, true
}

// cost is what a way costs: first its effort counts, then how many cells it has. Where there is no way, it has none.
type cost struct{ effort, cells int }

func (c cost) less(o cost) bool {
	return c.effort < o.effort || c.effort == o.effort && c.cells < o.cells
}

func (t trip) carries(cell int) bool {
	switch c := t.Cells[cell]; c.Kind {
	case api.CellWood, api.CellRide, api.CellField:
		return t.load <= 100-c.Soft*t.wet
	}
	return false
}

// entering returns the cost of a way that first enters a cell that carries, and then goes on at a cost.
func (t trip) entering(cell int, onward cost) cost {
	c := t.Cells[cell]
	effort := c.Soft * t.wet
	switch c.Kind {
	case api.CellRide:
		effort += 2
	case api.CellField:
		effort += 3
	case api.CellWood:
		effort += 5 + c.Stools
	}
	return cost{onward.effort + effort, onward.cells + 1}
}

// costs returns, for each cell, the cost of the best way from it to the end of the trip.
func (t trip) costs() []cost {
	best := make([]cost, len(t.Cells))
	if !t.carries(t.to) {
		return best
	}
	var open agenda = &legs{}
	open.put(leg{cost{0, 1}, t.to})
	for {
		l, ok := open.take()
		if !ok {
			return best
		}
		if best[l.cell].cells != 0 {
			continue
		}
		best[l.cell] = l.cost
		longer := t.entering(l.cell, l.cost)
		for _, near := range t.around(l.cell) {
			if near != outside && best[near].cells == 0 && t.carries(near) {
				open.put(leg{longer, near})
			}
		}
	}
}

// follow returns the best way from a cell from which there is one. All that are as good have as many cells, so the least neighbor comes first each time.
func (t trip) follow(from int, best []cost) []int {
	way := []int{from}
	for best[from].cells > 1 {
		to := len(best)
		for _, near := range t.around(from) {
			if near != outside && best[near].cells != 0 && t.entering(near, best[near]) == best[from] {
				to = min(to, near)
			}
		}
		way = append(way, to)
		from = to
	}
	return way
}

// leg is a cell from which the end of the trip can be reached at a cost.
type leg struct {
	cost
	cell int
}

// agenda keeps legs, and gives back one of the least cost each time.
type agenda interface {
	put(l leg)
	take() (leg, bool)
}

// legs is an agenda that is a heap.
type legs []leg

func (l legs) Len() int           { return len(l) }
func (l legs) Less(i, j int) bool { return l[i].less(l[j].cost) }
func (l legs) Swap(i, j int)      { l[i], l[j] = l[j], l[i] }

// Push appends a leg: package heap calls it.
func (l *legs) Push(x any) {
	if one, ok := x.(leg); ok {
		*l = append(*l, one)
	}
}

// Pop removes the last leg: package heap calls it.
func (l *legs) Pop() any {
	end := len(*l) - 1
	last := (*l)[end]
	*l = (*l)[:end]
	return last
}

func (l *legs) put(one leg) { heap.Push(l, one) }

func (l *legs) take() (leg, bool) {
	if len(*l) == 0 {
		return leg{}, false
	}
	one, ok := heap.Pop(l).(leg)
	return one, ok
}
