package graph

import (
	"sort"

	"pannier/addr"
	"pannier/api"
)

// closed is the first place in open of those that are not there any more: it is behind all others.
const closed = api.MaxCells + 1

// walk goes through what cells of a graph depend on, each once. It speaks of a cell by its place in cells.
type walk struct {
	edges map[api.Addr][]api.Rect
	cells []api.Addr // all of the graph, as cells go
	refs  [][]int    // of each that was met, the cells of the graph that it refers to, rising
	all   []set      // of each that is closed, the cells of the graph that it depends on
	open  []int      // those that were met and are not closed, in the order in which they were met
	first []int      // of each that is open, the first place in open that it is known to depend on, or its own, counted from 1; 0 of what was not met
}

// walk tells one that has met nothing.
func (g *Graph) walk() *walk {
	cells := g.Cells()
	return &walk{
		edges: g.all(),
		cells: cells,
		refs:  make([][]int, len(cells)),
		all:   make([]set, len(cells)),
		first: make([]int, len(cells)),
	}
}

// those tells the cells of which is holds, as cells go.
func (w *walk) those(is func(at int) bool) (l []api.Addr) {
	for at, a := range w.cells {
		if is(at) {
			l = append(l, a)
		}
	}
	return l
}

// isLoop tells whether a cell depends on itself.
func (w *walk) isLoop(at int) bool { return w.depends(at).has(at) }

// depends tells the cells of the graph that a cell depends on. It closes them, and the cell: those that depend on each other together, behind all others that they depend on.
func (w *walk) depends(at int) *set {
	if w.first[at] == 0 {
		w.through([]step{w.meet(at)})
	}
	return &w.all[at]
}

// step is a cell that is still to be gone through.
type step struct {
	at   int // the cell
	mine int // its place in open, counted from 1
	next int // which one of its references is to be looked at
}

// through goes through the cells of way, and through those that they depend on and that were not met.
func (w *walk) through(way []step) {
down:
	for len(way) > 0 {
		s := &way[len(way)-1]
		for refs := w.refs[s.at]; s.next < len(refs); s.next++ {
			to := refs[s.next]
			if w.first[to] == 0 {
				way = append(way, w.meet(to))
				continue down // to is looked at once more, when what it depends on has been gone through
			}
			w.first[s.at] = min(w.first[s.at], w.first[to])
		}
		w.leave(*s)
		way = way[:len(way)-1]
	}
}

// meet opens a cell.
func (w *walk) meet(at int) step {
	w.refs[at] = w.referred(w.edges[w.cells[at]])
	w.open = append(w.open, at)
	w.first[at] = len(w.open)
	return step{at: at, mine: len(w.open)}
}

// leave closes a cell whose references have been gone through, and those that depend on it and that it depends on; but not while there is one of these that was met ahead of it.
func (w *walk) leave(s step) {
	if w.first[s.at] < s.mine {
		return
	}
	ring := w.open[s.mine-1:]
	w.open = w.open[:s.mine-1]
	var all set
	for _, at := range ring {
		for _, to := range w.refs[at] {
			all.put(to)
			all.add(&w.all[to]) // nothing yet, if to is of the ring itself
		}
	}
	for _, at := range ring {
		w.all[at] = all
		w.first[at] = closed
	}
}

// referred tells the cells of the graph that are in one of the edges of a cell, rising.
func (w *walk) referred(edges []api.Rect) (l []int) {
	var m marks
	last := 0 // the last row of all
	for _, r := range edges {
		m.cover(r)
		last = max(last, r.To.Row)
	}
	for i := w.place(edges[0].From); i < len(w.cells) && w.cells[i].Row <= last; i++ {
		if m.has(w.cells[i]) {
			l = append(l, i)
		}
	}
	return l
}

// place tells where a stands among the cells, or would stand, if it is none of them.
func (w *walk) place(a api.Addr) int {
	return sort.Search(len(w.cells), func(i int) bool { return !addr.Before(w.cells[i], a) })
}
