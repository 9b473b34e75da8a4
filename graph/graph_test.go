package graph

import (
	"fmt"
	"math"
	"slices"
	"strings"
	"testing"
	"unsafe"

	"pannier/addr"
	"pannier/api"
)

func at(row, col int) api.Addr { return api.Addr{Row: row, Col: col} }

// cell is the cell of that name.
func cell(name string) api.Addr {
	a, ok := addr.Parse(name)
	if !ok {
		panic(name)
	}
	return a
}

// cells are those of a text: "A1 B2".
func cells(s string) (l []api.Addr) {
	for _, name := range strings.Fields(s) {
		l = append(l, cell(name))
	}
	return l
}

// names is a list of cells as a text: "A1 B2".
func names(l []api.Addr) string {
	var out []string
	for _, a := range l {
		out = append(out, addr.Name(a))
	}
	return strings.Join(out, " ")
}

// rects are those of a text, as they stand there: "A1 B1:C2".
func rects(s string) (l []api.Rect) {
	for _, name := range strings.Fields(s) {
		from, to, ok := strings.Cut(name, ":")
		if !ok {
			to = from
		}
		l = append(l, api.Rect{From: cell(from), To: cell(to)})
	}
	return l
}

// ranges is a list of rectangles as a text: "A1 B1:C2".
func ranges(l []api.Rect) string {
	var out []string
	for _, r := range l {
		if r.From == r.To {
			out = append(out, addr.Name(r.From))
		} else {
			out = append(out, addr.Name(r.From)+":"+addr.Name(r.To))
		}
	}
	return strings.Join(out, " ")
}

// shown is all cells of a graph with their edges, as a text: "A1 on B1 B2, A2 on C1".
func shown(g *Graph) string {
	var out []string
	for _, a := range g.Cells() {
		out = append(out, addr.Name(a)+" on "+ranges(g.Edges(a)))
	}
	return strings.Join(out, ", ")
}

// give sets a cell to the edges of a text, which may be set.
func give(t *testing.T, g *Graph, a, edges string) {
	t.Helper()
	if err := g.Set(cell(a), rects(edges)); err != api.OK {
		t.Fatal(a, edges, err)
	}
}

// made is a graph of a text as that of shown, whose cells are set one behind the other.
func made(t *testing.T, s string) *Graph {
	t.Helper()
	g := New()
	for _, part := range strings.Split(s, ", ") {
		a, edges, _ := strings.Cut(part, " on ")
		give(t, g, a, edges)
	}
	return g
}

// sets holds what Set answers, and what the graph is behind it.
func sets(t *testing.T, g *Graph, a api.Addr, l []api.Rect, want api.Errno, behind string) {
	t.Helper()
	if err := g.Set(a, l); err != want {
		t.Errorf("%v %v: %v, not %v", a, l, err, want)
	}
	if got := shown(g); got != behind {
		t.Errorf("%v %v: %s, not %s", a, l, got, behind)
	}
}

// asks holds what Direct and Reach tell of a list.
func asks(t *testing.T, g *Graph, l []api.Addr, direct, reach string) {
	t.Helper()
	if got := names(g.Direct(l)); got != direct {
		t.Errorf("direct of %v: %s, not %s", l, got, direct)
	}
	if got := names(g.Reach(l)); got != reach {
		t.Errorf("reach of %v: %s, not %s", l, got, reach)
	}
}

// loops holds what Loops tells.
func loops(t *testing.T, g *Graph, want string) {
	t.Helper()
	if got := names(g.Loops()); got != want {
		t.Errorf("%s: loops %s, not %s", shown(g), got, want)
	}
}

// orders holds what Order tells of a list.
func orders(t *testing.T, g *Graph, l []api.Addr, want string) {
	t.Helper()
	if got := names(g.Order(l)); got != want {
		t.Errorf("%s: order of %v: %s, not %s", shown(g), l, got, want)
	}
}

// outside are places that are no cells.
func outside() []api.Addr {
	return []api.Addr{
		{}, at(0, 1), at(1, 0), at(-1, 1), at(1, -1), at(1001, 1), at(1, 51), at(1001, 51), at(1000, 51), at(1001, 50), at(1, 63), at(1, 64), at(1, 65), at(1, 128),
		at(math.MaxInt, 1), at(1, math.MaxInt), at(math.MinInt, 1), at(1, math.MinInt), at(math.MaxInt, math.MaxInt), at(math.MinInt, math.MinInt),
	}
}

// wrong are rectangles that are not good.
func wrong() []api.Rect {
	l := append([]api.Rect{{}}, rects("B2:A1 B1:A1 A2:A1 B1:A2 A2:B1 AX1000:A1")...)
	for _, a := range outside() {
		l = append(l, api.Rect{From: a, To: cell("AX1000")}, api.Rect{From: cell("A1"), To: a}, api.Rect{From: a, To: a})
	}
	return l
}

// whole is each cell of the grid, as cells go.
func whole() (l []api.Addr) {
	for i := range api.MaxRow * api.MaxCol {
		l = append(l, at(i/api.MaxCol+1, i%api.MaxCol+1))
	}
	return l
}

// column is a graph whose cells are the first ones of column A; each refers to the cells of those numbers, from 0.
func column(t *testing.T, count int, refs func(i int) []int) *Graph {
	t.Helper()
	g := New()
	for i := range count {
		var l []api.Rect
		for _, to := range refs(i) {
			l = append(l, api.Rect{From: at(to+1, 1), To: at(to+1, 1)})
		}
		if err := g.Set(at(i+1, 1), l); err != api.OK {
			t.Fatal(i, err)
		}
	}
	return g
}

// down are the cells of column A from one to another, counted from 0.
func down(from, to int) (l []api.Addr) {
	for i := from; i <= to; i++ {
		l = append(l, at(i+1, 1))
	}
	return l
}

// turned is l from its end to its beginning.
func turned(l []api.Addr) []api.Addr {
	l = slices.Clone(l)
	slices.Reverse(l)
	return l
}

// same holds two lists of cells against each other.
func same(t *testing.T, what string, got, want []api.Addr) {
	t.Helper()
	if !slices.Equal(got, want) {
		t.Errorf("%s: %s, not %s", what, names(got), names(want))
	}
}

// P13.1, P13.2: what a nil graph answers, be what it is asked right or wrong.
func TestNil(t *testing.T) {
	var g *Graph
	for _, a := range append(outside(), cell("A1"), cell("AX1000")) {
		for _, l := range [][]api.Rect{nil, {}, rects("A1"), rects("A1 B1:C2"), {{}}, wrong()} {
			if err := g.Set(a, l); err != api.ErrArg {
				t.Error(a, l, err)
			}
		}
		if l := g.Edges(a); len(l) != 0 {
			t.Error(a, l)
		}
	}
	for _, l := range [][]api.Addr{nil, {}, cells("A1"), cells("A1 B1 A1"), outside(), whole()} {
		if len(g.Direct(l))+len(g.Reach(l))+len(g.Order(l)) != 0 {
			t.Error(g.Direct(l), g.Reach(l), g.Order(l))
		}
	}
	if len(g.Cells())+len(g.Loops()) != 0 {
		t.Error(g.Cells(), g.Loops())
	}
}

// P13.1: a new graph is without cells, and each is another one.
func TestNew(t *testing.T) {
	g, other := New(), New()
	give(t, other, "A1", "A1 B2")
	for _, a := range append(outside(), whole()...) {
		if l := g.Edges(a); len(l) != 0 {
			t.Error(a, l)
		}
	}
	asks(t, g, whole(), "", "")
	orders(t, g, whole(), "")
	loops(t, g, "")
	if len(g.Cells()) != 0 || shown(New()) != "" || shown(other) != "A1 on A1 B2" {
		t.Error(shown(g), shown(other))
	}
}

// P13.1: a cell has just the edges that it was set to last, be they cells or ranges, and others keep theirs.
func TestSet(t *testing.T) {
	g := New()
	sets(t, g, cell("B2"), rects("A1"), api.OK, "B2 on A1")
	sets(t, g, cell("A2"), rects("A1:C3"), api.OK, "A2 on A1:C3, B2 on A1")
	sets(t, g, cell("C1"), rects("C1"), api.OK, "C1 on C1, A2 on A1:C3, B2 on A1")
	sets(t, g, cell("B2"), rects("A1:B2 B2:C3 C3"), api.OK, "C1 on C1, A2 on A1:C3, B2 on A1:B2 B2:C3 C3")
	sets(t, g, cell("B2"), rects("D4"), api.OK, "C1 on C1, A2 on A1:C3, B2 on D4")
	sets(t, g, cell("B2"), rects("D4"), api.OK, "C1 on C1, A2 on A1:C3, B2 on D4")
	asks(t, g, cells("A1"), "A2", "A2")
	asks(t, g, cells("D4"), "B2", "A2 B2")
	for _, a := range whole() {
		if l := g.Edges(a); len(l) != 0 && a != cell("C1") && a != cell("A2") && a != cell("B2") {
			t.Error(a, l)
		}
	}
	for _, a := range outside() {
		if l := g.Edges(a); len(l) != 0 {
			t.Error(a, l)
		}
	}
}

// P13.1: the first and the last cell of the grid, on each other and on all of it.
func TestCorners(t *testing.T) {
	g := New()
	sets(t, g, cell("AX1000"), rects("A1"), api.OK, "AX1000 on A1")
	loops(t, g, "")
	asks(t, g, cells("A1"), "AX1000", "AX1000")
	orders(t, g, cells("AX1000 A1"), "AX1000")
	sets(t, g, cell("A1"), rects("AX1000"), api.OK, "A1 on AX1000, AX1000 on A1")
	loops(t, g, "A1 AX1000")
	sets(t, g, cell("AX1000"), rects("AX999:AX1000 AW1000"), api.OK, "A1 on AX1000, AX1000 on AX999:AX1000 AW1000")
	loops(t, g, "AX1000")
	asks(t, g, cells("AW1000"), "AX1000", "A1 AX1000")
	sets(t, g, cell("AX1000"), rects("A1000 AX1"), api.OK, "A1 on AX1000, AX1000 on AX1 A1000")
	orders(t, g, cells("A1 AX1000"), "AX1000 A1")
	sets(t, g, cell("AX1"), rects("A1:AX1000"), api.OK, "A1 on AX1000, AX1 on A1:AX1000, AX1000 on AX1 A1000")
	loops(t, g, "A1 AX1 AX1000")
	for _, a := range whole() {
		direct := "AX1"
		switch a {
		case cell("AX1"), cell("A1000"):
			direct = "AX1 AX1000"
		case cell("AX1000"):
			direct = "A1 AX1"
		}
		if got := names(g.Direct([]api.Addr{a})); got != direct {
			t.Fatal(a, got, direct)
		}
	}
}

// P13.1: ErrGrid of a place that is no cell's, with edges and without, and of each list that has a rectangle which is not good, wherever it stands; nothing is changed.
func TestErrGrid(t *testing.T) {
	g := made(t, "A1 on B1 B2, B1 on A1")
	was := shown(g)
	for _, a := range outside() {
		for _, l := range [][]api.Rect{nil, {}, rects("A1"), rects("A1:AX1000 B2"), {{}}, wrong()} {
			sets(t, g, a, l, api.ErrGrid, was)
		}
	}
	good := rects("B2:C3 A1 A1:AX1000")
	for _, r := range wrong() {
		for i := range len(good) + 1 {
			for _, name := range []string{"A1", "B1", "C1", "AX1000"} {
				sets(t, g, cell(name), slices.Insert(slices.Clone(good), i, r), api.ErrGrid, was)
			}
		}
		sets(t, g, cell("A1"), []api.Rect{r}, api.ErrGrid, was)
		sets(t, g, cell("A1"), []api.Rect{r, r}, api.ErrGrid, was)
	}
	loops(t, g, "A1 B1")
}

// P13.1: edges stand by From, then by To, each once, whatever the order in which they are given; those that overlap stay two.
func TestEdgesInOrder(t *testing.T) {
	want := "A1 A1:C1 A1:A2 A1:B2 A1:A3 B1 C1:C2 A2 A2:B2 A2:A3 B2"
	l := rects(want)
	g := New()
	for step := range 3000 { // each time, another order: 2, then 3, then 5 .. places on, and turned
		mixed := make([]api.Rect, 0, 2*len(l))
		for i := range l {
			mixed = append(mixed, l[(i*(step%10+1)+step)%len(l)])
		}
		if step%2 == 1 {
			slices.Reverse(mixed)
		}
		mixed = append(mixed, mixed[:step%12]...) // some twice
		sets(t, g, cell("B2"), mixed, api.OK, "B2 on "+want)
	}
	for _, s := range []string{"A1:B2", "B2:C3", "A1:B2 A1:B3", "A1:B2 B2:C3", "A1:AX1000 B2", "A1:C3 A2:B2"} {
		l := rects(s)
		for range 3 {
			sets(t, g, cell("B2"), l, api.OK, "B2 on "+s)
			l = append(l, l...)
			slices.Reverse(l)
		}
	}
	// row ahead of column, in From and in To
	sets(t, g, cell("B2"), rects("A2 B1 AX1 A10 A9 J1 AX1:AX2 B1:AX1 B1:B2"), api.OK, "B2 on B1 B1:AX1 B1:B2 J1 AX1 AX1:AX2 A2 A9 A10")
}

// P13.1: a cell that is set to no edges is no cell of the graph, and may come back.
func TestNoEdges(t *testing.T) {
	g := New()
	for _, none := range [][]api.Rect{nil, {}, rects("B1:C2")[:0]} {
		sets(t, g, cell("A1"), none, api.OK, "")
		sets(t, g, cell("A1"), rects("A1 B1"), api.OK, "A1 on A1 B1")
		sets(t, g, cell("B1"), rects("A1"), api.OK, "A1 on A1 B1, B1 on A1")
		sets(t, g, cell("C1"), none, api.OK, "A1 on A1 B1, B1 on A1")
		sets(t, g, cell("A1"), none, api.OK, "B1 on A1")
		asks(t, g, cells("A1 B1"), "B1", "B1")
		loops(t, g, "")
		orders(t, g, cells("A1 B1"), "B1")
		sets(t, g, cell("A1"), none, api.OK, "B1 on A1")
		sets(t, g, cell("A1"), rects("B1"), api.OK, "A1 on B1, B1 on A1")
		loops(t, g, "A1 B1")
		sets(t, g, cell("A1"), none, api.OK, "B1 on A1")
		sets(t, g, cell("B1"), none, api.OK, "")
	}
}

// P13.1: as many cells as MaxCells, and not one more; but those that are there may be set, and taken out.
func TestErrMany(t *testing.T) {
	g := column(t, api.MaxCells, func(int) []int { return []int{5} })
	was := shown(g)
	for _, name := range []string{"B1", "AX1000", "B500"} {
		sets(t, g, cell(name), rects("A1 B1"), api.ErrMany, was)
		sets(t, g, cell(name), nil, api.OK, was)
		sets(t, g, cell(name), []api.Rect{{}}, api.ErrGrid, was)
	}
	for _, a := range outside() {
		sets(t, g, a, rects("A1 B1"), api.ErrGrid, was)
	}
	for _, i := range []int{0, 499, api.MaxCells - 1} {
		sets(t, g, at(i+1, 1), rects("A7"), api.OK, strings.Replace(was, fmt.Sprintf("A%d on A6", i+1), fmt.Sprintf("A%d on A7", i+1), 1))
		sets(t, g, at(i+1, 1), rects("A6"), api.OK, was)
	}
	for _, i := range []int{0, 499, api.MaxCells - 1} {
		if g.Set(at(i+1, 1), nil) != api.OK || len(g.Cells()) != api.MaxCells-1 {
			t.Fatal(i)
		}
		if g.Set(cell("B500"), rects("A6")) != api.OK || len(g.Cells()) != api.MaxCells || g.Set(at(i+1, 1), rects("A6")) != api.ErrMany {
			t.Fatal(i)
		}
		if g.Set(cell("B500"), nil) != api.OK || g.Set(at(i+1, 1), rects("A6")) != api.OK || g.Set(cell("B500"), rects("A6")) != api.ErrMany || shown(g) != was {
			t.Fatal(i)
		}
	}
}

// P13.1: Cells are told as cells go, whatever the order in which they were set.
func TestCells(t *testing.T) {
	l := whole()
	for _, step := range []int{1, 7, 49, 51, 50001, 33333} { // none of these has anything in common with what l has
		g := New()
		var want []api.Addr
		for i := range api.MaxCells {
			a := l[i*step*37%len(l)]
			if err := g.Set(a, rects("B1")); err != api.OK {
				t.Fatal(a, err)
			}
			want = append(want, a)
		}
		slices.SortFunc(want, func(a, b api.Addr) int { return 100*(a.Row-b.Row) + a.Col - b.Col })
		same(t, "cells", g.Cells(), want)
		same(t, "direct", g.Direct(cells("B1")), want)
		same(t, "reach", g.Reach(cells("B1")), want)
	}
}

// P13.2: Direct and Reach of no cell, of those that nobody refers to, and of what is no cell.
func TestOfNothing(t *testing.T) {
	g := made(t, "B1 on A1, C1 on B1, D1 on C1:D2")
	for _, l := range [][]api.Addr{nil, {}, cells("E1"), cells("E1 A2 AX1000"), outside()} {
		asks(t, g, l, "", "")
	}
	for _, a := range outside() { // what would be among the cells, if it went round in some number of bits, is none of them either
		asks(t, g, []api.Addr{a}, "", "")
		asks(t, g, []api.Addr{a, cell("B1"), a}, "C1", "C1 D1")
		asks(t, g, []api.Addr{cell("A1"), a}, "B1", "B1 C1 D1")
	}
	all := made(t, "A1 on A1:AX1000")
	asks(t, all, outside(), "", "")
	asks(t, all, nil, "", "")
}

// P13.2: Direct is who refers to one of the list, Reach is who depends on one of it: as cells go, each once, whatever the list's order.
func TestDirectAndReach(t *testing.T) {
	g := made(t, "B1 on A1, C1 on B1, A2 on A1:C1, B2 on C1 Z9, C2 on A2:B2, D9 on Z1:Z10, D2 on D3, D3 on C2")
	for _, x := range []struct{ l, direct, reach string }{
		{"A1", "B1 A2", "B1 C1 A2 B2 C2 D2 D3"},
		{"B1", "C1 A2", "C1 A2 B2 C2 D2 D3"},
		{"C1", "A2 B2", "A2 B2 C2 D2 D3"},
		{"A2", "C2", "C2 D2 D3"},
		{"C2", "D3", "D2 D3"},
		{"D2", "", ""},
		{"D3", "D2", "D2"},
		{"Z1", "D9", "D9"},
		{"Z9", "B2 D9", "B2 C2 D2 D3 D9"},
		{"Z11", "", ""},
		{"A1 A1 A1", "B1 A2", "B1 C1 A2 B2 C2 D2 D3"},
		{"B2 A2 B2", "C2", "C2 D2 D3"},
		{"D3 C2", "D2 D3", "D2 D3"}, // D3 is of the list, and refers to one of it
		{"A2 C1", "A2 B2 C2", "A2 B2 C2 D2 D3"},
		{"Z10 D2 C2", "D3 D9", "D2 D3 D9"},
		{"D3 C2 B2 A2 C1 B1 A1 Z5", "B1 C1 A2 B2 C2 D2 D3 D9", "B1 C1 A2 B2 C2 D2 D3 D9"},
	} {
		asks(t, g, cells(x.l), x.direct, x.reach)
		asks(t, g, turned(cells(x.l)), x.direct, x.reach)
		asks(t, g, append(cells(x.l), outside()...), x.direct, x.reach)
	}
	asks(t, g, whole(), "B1 C1 A2 B2 C2 D2 D3 D9", "B1 C1 A2 B2 C2 D2 D3 D9")
	loops(t, g, "")
	same(t, "example", made(t, "B1 on A1, C1 on B1").Reach(cells("A1")), cells("B1 C1"))
}

// P13.2: cells of a ring depend on themselves, and on each other; so do those of the rings that they lead to not.
func TestReachOfRings(t *testing.T) {
	g := made(t, "A1 on A1, B1 on C1, C1 on D1, D1 on B1, E1 on D1, F1 on E1, G1 on G1:H2, C1 on D1 Z1, I1 on A1 B1")
	asks(t, g, cells("A1"), "A1 I1", "A1 I1")
	asks(t, g, cells("B1"), "D1 I1", "B1 C1 D1 E1 F1 I1")
	asks(t, g, cells("C1"), "B1", "B1 C1 D1 E1 F1 I1")
	asks(t, g, cells("D1"), "C1 E1", "B1 C1 D1 E1 F1 I1")
	asks(t, g, cells("Z1"), "C1", "B1 C1 D1 E1 F1 I1")
	asks(t, g, cells("E1"), "F1", "F1")
	asks(t, g, cells("G1"), "G1", "G1")
	asks(t, g, cells("H2"), "G1", "G1")
	asks(t, g, cells("F1 I1"), "", "")
	asks(t, g, cells("H1 A1 F1"), "A1 G1 I1", "A1 G1 I1")
	loops(t, g, "A1 B1 C1 D1 G1")
}

// P13.2: Loops are those alone that depend on themselves: not those that lead to them, nor those that they lead to, nor those between two rings.
func TestLoops(t *testing.T) {
	for _, x := range []struct{ graph, want string }{
		{"A1 on A1", "A1"},
		{"A1 on B1", ""},
		{"B2 on A1:C3", "B2"},
		{"B2 on A1 C3 B2", "B2"},
		{"B2 on A1:C1 A3:C3 A2 C2", ""},
		{"A1 on B1, B1 on A1", "A1 B1"},
		{"B1 on A1, A1 on B1, C1 on A1 B1", "A1 B1"},
		{"A1 on B1, B1 on B1", "B1"},
		{"A1 on B1, B1 on C1, C1 on B1", "B1 C1"},
		{"A1 on B1, B1 on A1 C1, C1 on D1, D1 on E1, E1 on D1", "A1 B1 D1 E1"},
		{"C1 on C1, A1 on A1, B1 on A1 C1", "A1 C1"},
		{"A1 on B1:C1, B1 on C1, C1 on D1 B1, D1 on Z1", "B1 C1"},
		{"A1 on B1 C1, B1 on D1, C1 on D1, D1 on A1", "A1 B1 C1 D1"},
		{"A1 on B1, B1 on C1, C1 on A1, D1 on B1:C1 E1, E1 on D1, F1 on G1, G1 on E1", "A1 B1 C1 D1 E1"},
		{"A1 on A1:AX1000, B1 on A1, C1 on B1, AX1000 on AW1000, D1 on Z9", "A1 B1 C1"},
		{"B1 on A1, B2 on B1 B3, B3 on B2 B4, B4 on B3", "B2 B3 B4"},
		{"A1 on C1 B1, B1 on D1, C1 on A1, D1 on B1", "A1 B1 C1 D1"},
	} {
		loops(t, made(t, x.graph), x.want)
		for _, a := range cells(x.want) {
			orders(t, made(t, x.graph), []api.Addr{a}, "")
		}
	}
}

// P13.2: one Set opens a ring, and one closes it.
func TestRingOpened(t *testing.T) {
	g := made(t, "A1 on B1, B1 on C1, C1 on D1, D1 on A1")
	loops(t, g, "A1 B1 C1 D1")
	orders(t, g, cells("A1 B1 C1 D1"), "")
	give(t, g, "B1", "E1")
	loops(t, g, "")
	orders(t, g, cells("A1 B1 C1 D1"), "B1 A1 D1 C1")
	asks(t, g, cells("A1"), "D1", "C1 D1")
	give(t, g, "B1", "")
	loops(t, g, "")
	orders(t, g, cells("A1 B1 C1 D1"), "A1 D1 C1")
	give(t, g, "B1", "B1:C1")
	loops(t, g, "A1 B1 C1 D1")
	give(t, g, "C1", "Z1")
	loops(t, g, "B1")
	orders(t, g, cells("A1 B1 C1 D1"), "C1 A1 D1") // A1 is on C1 by way of B1
}

// P13.2: Order tells those of the list that are cells of the graph and no loops, each once and behind all others of these that it depends on; else as cells go.
func TestOrder(t *testing.T) {
	// A1 on D1 on Z1; X1 on B1 on A1; F1 in a ring with G1; H1 on F1; C2 leads by the ring to A1, and D2 by C2
	g := made(t, "A1 on D1, B1 on A1, C1 on Y1, D1 on Z1, E1 on X1, X1 on B1, F1 on G1, G1 on F1 A1, H1 on F1, C2 on G1, D2 on C2, A3 on A3")
	for _, x := range []struct{ l, want string }{
		{"", ""},
		{"Z1", ""}, // it is referred to, and has no edges
		{"F1", ""},
		{"A3", ""},
		{"A3 F1 G1 Z1 Y1", ""},
		{"C1", "C1"},
		{"C1 C1 C1", "C1"},
		{"A1 D1", "D1 A1"},
		{"D1 A1", "D1 A1"},
		{"E1 A1 E1 A1", "A1 E1"},
		{"E1 D1", "D1 E1"}, // by way of X1, B1 and A1
		{"B1 E1 C1", "B1 C1 E1"},
		{"X1 E1", "X1 E1"}, // E1 waits for X1, which goes behind it as cells go
		{"A1 B1 C1 D1 E1 X1", "C1 D1 A1 B1 X1 E1"},
		{"X1 E1 D1 C1 B1 A1", "C1 D1 A1 B1 X1 E1"},
		{"H1 C2", "H1 C2"},
		{"H1 A1 F1", "A1 H1"},
		{"C2 A1", "A1 C2"},          // by way of the ring
		{"C2 A1 G1 F1", "A1 C2"},    // the ring itself is left out, and C2 is behind A1 all the same
		{"D2 G1 H1 D1", "D1 H1 D2"}, // each by way of the ring and of A1
		{"D2 C2 H1", "H1 C2 D2"},
		{"Z1 Y1 A3 AX1000 B1", "B1"},
	} {
		orders(t, g, cells(x.l), x.want)
		orders(t, g, turned(cells(x.l)), x.want)
		orders(t, g, append(cells(x.l+" "+x.l), outside()...), x.want)
	}
	orders(t, g, nil, "")
	orders(t, g, outside(), "")
	orders(t, g, whole(), "C1 D1 A1 B1 H1 X1 E1 C2 D2")
}

// P13.2: of those that may come, the one that goes first as cells go: one that may come later goes ahead of those that could come all the time.
func TestOrderTakesTheFirst(t *testing.T) {
	g := made(t, "A1 on B9, B9 on Z1, C1 on Z1, D1 on A1, E1 on F1, F1 on Z1, G1 on Z1")
	orders(t, g, cells("A1 B9 C1 D1 E1 F1 G1"), "C1 F1 E1 G1 B9 A1 D1")
	g = made(t, "A1 on C1, B1 on C1, C1 on Z1, D1 on Z1, E1 on B1")
	orders(t, g, cells("A1 B1 C1 D1 E1"), "C1 A1 B1 D1 E1")
	g = made(t, "B1 on A2, A1 on AX1000, AX1000 on B2, A2 on Z1, B2 on Z1") // rows ahead of columns
	orders(t, g, cells("A1 B1 A2 B2 AX1000"), "A2 B1 B2 AX1000 A1")
}

// P13.2: a chain of as many cells as may be, from either end.
func TestChains(t *testing.T) {
	count := api.MaxCells
	up := column(t, count, func(i int) []int { // each on the one ahead of it; the first on one that has no edges
		return []int{(i + count - 1) % count}
	})
	give(t, up, "A1", "B1")
	back := column(t, count, func(i int) []int { return []int{(i + 1) % count} })
	give(t, back, "A1000", "B1")
	for _, g := range []*Graph{up, back} {
		loops(t, g, "")
		same(t, "reach of the beginning", g.Reach(cells("B1")), down(0, count-1))
	}
	same(t, "up", up.Order(down(0, count-1)), down(0, count-1))
	same(t, "up, turned", up.Order(turned(down(0, count-1))), down(0, count-1))
	same(t, "back", back.Order(down(0, count-1)), turned(down(0, count-1)))
	for _, i := range []int{0, 1, 2, 63, 64, 65, 499, count - 2, count - 1} {
		same(t, "direct", up.Direct(down(i, i)), down(i+1, min(i+1, count-1)))
		same(t, "reach", up.Reach(down(i, i)), down(i+1, count-1))
		same(t, "direct, back", back.Direct(down(i, i)), down(max(i-1, 0), i-1))
		same(t, "reach, back", back.Reach(down(i, i)), down(0, i-1))
		same(t, "two", up.Order(append(down(i, i), down(0, 0)...)), slices.Compact(append(down(0, 0), down(i, i)...)))
		same(t, "two, back", back.Order(append(down(0, 0), down(i, i)...)), slices.Compact(append(down(i, i), down(0, 0)...)))
	}
	give(t, back, "A500", "B1") // cut in two: of each half, the cell behind all others may come as soon as nothing of it is left ahead
	same(t, "two halves", back.Order(down(0, count-1)), append(turned(down(0, 499)), turned(down(500, count-1))...))
}

// P13.2: rings of many sizes, with steps of many lengths, and one that is opened.
func TestRings(t *testing.T) {
	for _, count := range []int{1, 2, 3, 10, 64, 65, 499, api.MaxCells - 1, api.MaxCells} {
		for _, step := range []int{1, count - 1, 7} { // 7 and these counts have nothing in common
			g := column(t, count, func(i int) []int { return []int{(i + step) % count} })
			same(t, "loops", g.Loops(), down(0, count-1))
			same(t, "reach", g.Reach(down(count/2, count/2)), down(0, count-1))
			if l := g.Order(down(0, count-1)); len(l) != 0 {
				t.Error(count, step, names(l))
			}
			give(t, g, "A1", "B1")
			far := down(0, 0) // the one that refers to the first, the one that refers to that ..
			for i := (count - step%count) % count; i != 0; i = (i + count - step%count) % count {
				far = append(far, at(i+1, 1))
			}
			same(t, "reach, opened", g.Reach(cells("B1")), down(0, count-1))
			same(t, "order, opened", g.Order(down(0, count-1)), far)
			loops(t, g, "")
		}
	}
}

// P13.2: a chain that leads to a ring, and one that the ring leads to, are no ring.
func TestRingsAndChains(t *testing.T) {
	g := column(t, api.MaxCells, func(i int) []int { // 0 to 399 lead to the ring of 400 to 599, which leads to the rest
		switch i {
		case 599:
			return []int{400, 600}
		case api.MaxCells - 1:
			return []int{0}
		}
		return []int{i + 1}
	})
	give(t, g, "A1000", "B1")
	same(t, "loops", g.Loops(), down(400, 599))
	same(t, "reach of the end", g.Reach(cells("B1")), down(0, 999))
	same(t, "reach of the ring", g.Reach(down(450, 450)), down(0, 599))
	same(t, "order", g.Order(down(0, 999)), append(turned(down(600, 999)), turned(down(0, 399))...))
	same(t, "by way of the ring", g.Order(append(down(0, 0), down(999, 999)...)), append(down(999, 999), down(0, 0)...))
	give(t, g, "A451", "B2")
	loops(t, g, "")
	same(t, "opened", g.Order(down(0, 999)), append(append(turned(down(0, 450)), turned(down(600, 999))...), turned(down(451, 599))...))
}

// P13.2: branches that meet again and again are gone through once each: there are 2 to the 499 ways from B1 to A500.
func TestBranches(t *testing.T) {
	g := New()
	var rows []api.Addr
	for i := 1; i <= 500; i++ {
		for _, col := range []string{"A", "B"} {
			a := cell(col + fmt.Sprint(i))
			rows = append(rows, a)
			edges := fmt.Sprintf("A%d B%d", i+1, i+1)
			if i%2 == 0 {
				edges = fmt.Sprintf("A%d:B%d", i+1, i+1)
			}
			give(t, g, addr.Name(a), edges)
		}
	}
	var want []api.Addr
	for i := 500; i > 0; i-- {
		want = append(want, at(i, 1), at(i, 2))
	}
	loops(t, g, "")
	same(t, "reach", g.Reach(cells("A501")), rows)
	same(t, "reach of the middle", g.Reach(cells("B250")), rows[:2*249])
	same(t, "order", g.Order(rows), want)
	same(t, "some", g.Order(cells("A1 B1 A500 B500 A250")), cells("A500 B500 A250 A1 B1"))
	give(t, g, "A500", "B1")
	same(t, "a ring of all but two", g.Loops(), slices.Concat(rows[1:2], rows[2:999]))
	same(t, "those two", g.Order(rows), cells("B500 A1"))
}

// P13.2: fans, of cells and of ranges, that are as wide as may be.
func TestFans(t *testing.T) {
	count := api.MaxCells
	one := column(t, count, func(int) []int { return []int{count - 1} })
	same(t, "all on one", one.Reach(cells("A1000")), down(0, count-1))
	same(t, "one on itself", one.Loops(), down(count-1, count-1))
	same(t, "all but one", one.Order(down(0, count-1)), down(0, count-2))
	all, ahead, behind := New(), New(), New()
	for i := range count {
		name := addr.Name(at(i+1, 1))
		give(t, all, name, "A1:A1000")
		give(t, behind, name, fmt.Sprintf("A%d:B1000", min(i+2, count))+" B1:AX1000")
		give(t, ahead, name, fmt.Sprintf("A1:A%d B%d:AX1000", max(i, 1), i+1))
	}
	give(t, ahead, "A1", "B1")
	give(t, behind, "A1000", "B1")
	same(t, "all on all", all.Loops(), down(0, count-1))
	same(t, "reach of all", all.Reach(cells("A77")), down(0, count-1))
	loops(t, behind, "")
	same(t, "behind", behind.Order(down(0, count-1)), turned(down(0, count-1)))
	same(t, "reach, behind", behind.Reach(cells("A500")), down(0, 498))
	loops(t, ahead, "")
	same(t, "ahead", ahead.Order(turned(down(0, count-1))), down(0, count-1))
	same(t, "reach, ahead", ahead.Reach(cells("A500")), down(500, count-1))
	same(t, "direct, ahead", ahead.Direct(cells("B500")), down(1, 499))
	same(t, "the last cell", ahead.Direct(cells("AX1000")), down(1, 999))
}

// P13.1, P13.2: each cell refers to many ranges of many cells, and is asked of the whole grid.
func TestManyEdges(t *testing.T) {
	g := New()
	var wide []api.Rect
	for i := range 30 {
		wide = append(wide, api.Rect{From: at(i+1, 2), To: at(api.MaxRow-i, api.MaxCol)})
	}
	for i := range api.MaxCells {
		l := append(slices.Clone(wide), api.Rect{From: at(i+2, 1), To: at(i+2, 1)})
		if i == api.MaxCells-1 {
			l = wide
		}
		if err := g.Set(at(i+1, 1), l); err != api.OK {
			t.Fatal(i, err)
		}
	}
	same(t, "reach", g.Reach(cells("A1000")), down(0, 998))
	same(t, "reach of the grid", g.Reach(whole()), down(0, 999))
	same(t, "reach of column B", g.Reach(cells("B1")), down(0, 999))
	same(t, "order", g.Order(whole()), turned(down(0, 999)))
	loops(t, g, "")
}

// P13.1: a list of very many rectangles, in no order, of which few are different.
func TestLongLists(t *testing.T) {
	var l []api.Rect
	for i := range 300000 {
		k := i * 7919 % 100
		l = append(l, api.Rect{From: at(100-k, k%10+1), To: at(100, k%7+11)})
	}
	g := New()
	if err := g.Set(cell("A1"), l); err != api.OK {
		t.Fatal(err)
	}
	e := g.Edges(cell("A1"))
	if len(e) != 100 || !slices.IsSortedFunc(e, func(a, b api.Rect) int { return a.From.Row - b.From.Row }) {
		t.Error(len(e), ranges(e))
	}
	var asked []api.Addr
	for range 20 {
		asked = append(asked, whole()...)
	}
	asks(t, g, asked, "A1", "A1")
	orders(t, g, asked, "A1")
}

// P13.1, P13.2: what is written into a list that was given, or told, changes neither the graph nor another answer; what is given is not changed, nor is its spare room.
func TestNewMemory(t *testing.T) {
	g := New()
	room := rects("C3 A1 C3 A1:B2 A2:A3 D4 D4")
	given := room[:5]
	was := slices.Clone(room)
	if g.Set(cell("B2"), given) != api.OK || !slices.Equal(room, was) {
		t.Error(room)
	}
	sorted := rects("A1 B1 D4 E5")
	if g.Set(cell("A2"), sorted[:2]) != api.OK || ranges(sorted) != "A1 B1 D4 E5" {
		t.Error(sorted)
	}
	give(t, g, "C3", "B2:C3")
	give(t, g, "B1", "A1")
	whole := shown(g)
	spoil(room)
	spoil(sorted)
	if shown(g) != whole {
		t.Error(shown(g))
	}
	for _, a := range cells("A2 B2 C3") {
		one, two := g.Edges(a), g.Edges(a)
		spoil(one)
		if shown(g) != whole || ranges(two) != ranges(g.Edges(a)) {
			t.Error(ranges(two), shown(g))
		}
	}
	asked := cells("C3 A1 C3 B2 A2 A2 B1 D4")
	for what, tell := range map[string]func() []api.Addr{
		"cells":  g.Cells,
		"direct": func() []api.Addr { return g.Direct(asked[:6]) },
		"reach":  func() []api.Addr { return g.Reach(asked[:6]) },
		"loops":  g.Loops,
		"order":  func() []api.Addr { return g.Order(asked[:6]) },
	} {
		one, two := tell(), tell()
		told := slices.Clone(two)
		if len(one) == 0 || names(asked) != "C3 A1 C3 B2 A2 A2 B1 D4" {
			t.Error(what, one, asked)
		}
		spoil(one)
		if !slices.Equal(two, told) || !slices.Equal(tell(), told) || shown(g) != whole || names(asked) != "C3 A1 C3 B2 A2 A2 B1 D4" {
			t.Error(what, two, told, tell(), shown(g))
		}
	}
}

// spoil writes into a list and into its spare room.
func spoil[T any](l []T) {
	clear(l[:cap(l)])
}

// P13.1: no room is kept for what was given twice.
func TestRoom(t *testing.T) {
	g := New()
	var l []api.Rect
	for range 100000 {
		l = append(l, rects("A1 B2")...)
	}
	if err := g.Set(cell("A1"), l); err != api.OK {
		t.Fatal(err)
	}
	if kept := g.edges[cell("A1")]; cap(kept) > 8 || unsafe.SliceData(kept) == unsafe.SliceData(l) {
		t.Error(cap(kept))
	}
}
