package graph

import (
	"math/bits"

	"pannier/addr"
	"pannier/api"
)

// marks are some cells of the grid: a row's cells have room as bits of one number.
type marks [api.MaxRow + 1]uint64

// marked tells those of l that are cells.
func marked(l []api.Addr) *marks {
	var m marks
	for _, a := range l {
		if addr.Good(a) {
			m.put(a)
		}
	}
	return &m
}

// put marks the cell a.
func (m *marks) put(a api.Addr) { m[a.Row] |= 1 << a.Col }

// has tells whether the cell a is marked.
func (m *marks) has(a api.Addr) bool { return m[a.Row]>>a.Col&1 == 1 }

// cover marks all cells of r, which is good.
func (m *marks) cover(r api.Rect) {
	wide := columns(r)
	for row := r.From.Row; row <= r.To.Row; row++ {
		m[row] |= wide
	}
}

// meets tells whether a cell of r, which is good, is marked.
func (m *marks) meets(r api.Rect) bool {
	wide := columns(r)
	for _, row := range m[r.From.Row : r.To.Row+1] {
		if row&wide != 0 {
			return true
		}
	}
	return false
}

// list tells those that are marked, as cells go.
func (m *marks) list() (l []api.Addr) {
	for row, left := range m {
		for ; left != 0; left &= left - 1 {
			l = append(l, api.Addr{Row: row, Col: bits.TrailingZeros64(left)})
		}
	}
	return l
}

// columns tells the columns of r, which is good, as bits.
func columns(r api.Rect) uint64 { return 1<<(r.To.Col+1) - 1<<r.From.Col }
