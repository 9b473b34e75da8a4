package sheet

import (
	"slices"
	"sort"
	"strings"

	"pannier/addr"
	"pannier/api"
	"pannier/eval"
	"pannier/refs"
	"pannier/source"
	"pannier/value"
)

// walk goes through what cells reach, each once, and tells their values on its way back. It speaks of a cell by its place in cells.
type walk struct {
	sources map[api.Addr]source.Source
	cells   []api.Addr  // all that have a source, as cells go
	values  []api.Value // theirs; Empty, while they are not known
	open    []int       // those that were met and whose values are not known, in the order in which they were met
	first   []int       // of each that is open, the first place in open that it is known to reach, counted from 1; 0 of what was not met
}

// step is a cell on the way from the one that the walk began at.
type step struct {
	at   int   // the cell
	mine int   // its place in open, counted from 1
	refs []int // those it refers to, rising
	next int   // which one of these is to be looked at
}

// walk tells one that has met nothing.
func (s *Sheet) walk() *walk {
	cells := s.Cells()
	return &walk{
		sources: s.all(),
		cells:   cells,
		values:  make([]api.Value, len(cells)),
		first:   make([]int, len(cells)),
	}
}

// reach makes the value of a cell known, and those of all that it reaches. Cells that reach each other are closed together, behind all others that they reach; so each value is known ahead of those that ask for it.
func (w *walk) reach(at int) {
	if w.first[at] != 0 {
		return
	}
	way := []step{w.meet(at)}
down:
	for len(way) > 0 {
		s := &way[len(way)-1]
		for ; s.next < len(s.refs); s.next++ {
			to := s.refs[s.next]
			if w.first[to] == 0 {
				way = append(way, w.meet(to))
				continue down // to is looked at once more, when what it reaches has been gone through
			}
			if w.isOpen(to) {
				w.first[s.at] = min(w.first[s.at], w.first[to])
			}
		}
		w.leave(*s)
		way = way[:len(way)-1]
	}
}

// meet opens a cell.
func (w *walk) meet(at int) step {
	w.open = append(w.open, at)
	w.first[at] = len(w.open)
	return step{at: at, mine: len(w.open), refs: w.referred(at)}
}

// isOpen tells whether a cell that was met has no value yet.
func (w *walk) isOpen(at int) bool { return w.values[at].Kind == api.Empty }

// leave closes a cell whose references have been gone through, and those that reach it and that it reaches; but not while there is one of these that was met ahead of it.
func (w *walk) leave(s step) {
	if w.first[s.at] < s.mine {
		return
	}
	ring := w.open[s.mine-1:]
	w.open = w.open[:s.mine-1]
	if len(ring) == 1 && !slices.Contains(s.refs, s.at) {
		w.values[s.at] = w.reckoned(s)
		return
	}
	for _, at := range ring {
		w.values[at] = value.Fail(api.Loop)
	}
}

// reckoned tells the value of a cell that does not reach itself.
func (w *walk) reckoned(s step) api.Value {
	x := w.sources[w.cells[s.at]]
	if x.Kind != formula {
		return own(x.V)
	}
	known := make([]api.Entry, len(s.refs))
	for i, at := range s.refs {
		known[i] = api.Entry{A: w.cells[at], V: w.values[at]}
	}
	return eval.Of(x.N, known)
}

// referred tells the cells with a source that a cell refers to, rising.
func (w *walk) referred(at int) (l []int) {
	hit := make([]bool, len(w.cells))
	for _, r := range refs.Of(w.sources[w.cells[at]].N) {
		for i := w.place(r.From); i < len(hit) && !addr.Before(r.To, w.cells[i]); i++ {
			hit[i] = hit[i] || addr.Has(r, w.cells[i])
		}
	}
	for i, is := range hit {
		if is {
			l = append(l, i)
		}
	}
	return l
}

// place tells where a stands among the cells, or would stand, if it is none of them.
func (w *walk) place(a api.Addr) int {
	return sort.Search(len(w.cells), func(i int) bool { return !addr.Before(w.cells[i], a) })
}

// own tells v with its text in memory of its own.
func own(v api.Value) api.Value {
	v.S = strings.Clone(v.S)
	return v
}
