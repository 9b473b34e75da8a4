package graph

import (
	"fmt"
	"math/rand"
	"slices"
	"testing"

	"pannier/addr"
	"pannier/api"
)

// model is a graph as the chapter's words have it: edges by cells, and nothing else. Each thing that is asked is made of them anew, as plainly as can be.
type model map[api.Addr][]api.Rect

// good tells whether a is a cell.
func good(a api.Addr) bool { return 1 <= a.Row && a.Row <= 1000 && 1 <= a.Col && a.Col <= 50 }

// within tells whether a cell is in a rectangle.
func within(r api.Rect, a api.Addr) bool {
	return r.From.Row <= a.Row && a.Row <= r.To.Row && r.From.Col <= a.Col && a.Col <= r.To.Col
}

// key puts cells and rectangles as they go.
func key(a api.Addr) int { return 100*a.Row + a.Col }

// set is what Set must answer; it is done, if it may be.
func (m model) set(a api.Addr, l []api.Rect) api.Errno {
	ok := good(a)
	for _, r := range l {
		ok = ok && good(r.From) && good(r.To) && r.From.Row <= r.To.Row && r.From.Col <= r.To.Col
	}
	if !ok {
		return api.ErrGrid
	}
	var edges []api.Rect
	for _, r := range l {
		if !slices.Contains(edges, r) {
			edges = append(edges, r)
		}
	}
	slices.SortFunc(edges, func(a, b api.Rect) int {
		return 1000000*(key(a.From)-key(b.From)) + key(a.To) - key(b.To)
	})
	delete(m, a)
	if len(edges) > 0 {
		m[a] = edges
	}
	return api.OK
}

// cells are those that have edges, as cells go.
func (m model) cells() (l []api.Addr) {
	for a := range m {
		l = append(l, a)
	}
	slices.SortFunc(l, func(a, b api.Addr) int { return key(a) - key(b) })
	return l
}

// refers tells whether a refers to b.
func (m model) refers(a, b api.Addr) bool {
	return slices.ContainsFunc(m[a], func(r api.Rect) bool { return within(r, b) })
}

// depends is who depends on whom: by cells that depend, those that they depend on, among l too.
func (m model) depends(l []api.Addr) map[[2]api.Addr]bool {
	cells := m.cells()
	all := append(slices.Clone(l), cells...)
	on := map[[2]api.Addr]bool{}
	for _, a := range cells {
		for _, b := range all {
			if m.refers(a, b) {
				on[[2]api.Addr{a, b}] = true
			}
		}
	}
	for _, k := range cells {
		for _, a := range cells {
			for _, b := range all {
				if on[[2]api.Addr{a, k}] && on[[2]api.Addr{k, b}] {
					on[[2]api.Addr{a, b}] = true
				}
			}
		}
	}
	return on
}

// those are the cells of the model of which is holds, as cells go.
func (m model) those(is func(a api.Addr) bool) (l []api.Addr) {
	for _, a := range m.cells() {
		if is(a) {
			l = append(l, a)
		}
	}
	return l
}

// order is what Order must tell.
func (m model) order(l []api.Addr) (order []api.Addr) {
	on := m.depends(nil)
	todo := m.those(func(a api.Addr) bool { return slices.Contains(l, a) && !on[[2]api.Addr{a, a}] })
	for len(todo) > 0 {
		for i, a := range todo {
			waits := slices.ContainsFunc(todo, func(b api.Addr) bool { return on[[2]api.Addr{a, b}] })
			if !waits {
				order = append(order, a)
				todo = slices.Delete(todo, i, i+1)
				break
			}
		}
	}
	return order
}

// alike holds all that a graph tells of itself, and of a list, against a model.
func alike(t *testing.T, g *Graph, m model, l []api.Addr) {
	t.Helper()
	cells := m.cells()
	if !slices.Equal(g.Cells(), cells) {
		t.Fatal(m, g.Cells())
	}
	for _, a := range append(slices.Clone(l), cells...) {
		if !slices.Equal(g.Edges(a), m[a]) {
			t.Fatal(m, a, g.Edges(a))
		}
	}
	on := m.depends(l)
	direct := m.those(func(a api.Addr) bool {
		return slices.ContainsFunc(l, func(b api.Addr) bool { return m.refers(a, b) })
	})
	reach := m.those(func(a api.Addr) bool {
		return slices.ContainsFunc(l, func(b api.Addr) bool { return on[[2]api.Addr{a, b}] })
	})
	loops := m.those(func(a api.Addr) bool { return on[[2]api.Addr{a, a}] })
	if !slices.Equal(g.Direct(l), direct) || !slices.Equal(g.Reach(l), reach) || !slices.Equal(g.Loops(), loops) || !slices.Equal(g.Order(l), m.order(l)) {
		t.Fatal(shown(g), l, names(g.Direct(l)), names(g.Reach(l)), names(g.Loops()), names(g.Order(l)), names(direct), names(reach), names(loops), names(m.order(l)))
	}
}

// maker makes what is set at random, of cells that lie close to each other.
type maker struct {
	*rand.Rand
	size int // how many rows and columns there are
}

// place is a cell.
func (r maker) place() api.Addr {
	if r.Intn(60) == 0 {
		return at(1000, 50)
	}
	return at(1+r.Intn(r.size), 1+r.Intn(r.size))
}

// area is a rectangle, most often of one cell.
func (r maker) area() api.Rect {
	a := r.place()
	switch r.Intn(16) {
	case 0, 1:
		box, _ := addr.Made(a, r.place())
		return box
	case 2:
		return api.Rect{From: a, To: at(min(a.Row+1, 1000), a.Col)}
	case 3:
		return api.Rect{From: a, To: at(a.Row, min(a.Col+1, 50))}
	case 4:
		if r.Intn(10) == 0 {
			return api.Rect{From: at(1, 1), To: at(1000, 50)}
		}
	}
	return api.Rect{From: a, To: a}
}

// areas are some rectangles, at times with one that is not good, or none.
func (r maker) areas() (l []api.Rect) {
	for range []int{0, 1, 1, 1, 1, 2, 2, 3, 6}[r.Intn(9)] {
		l = append(l, r.area())
	}
	if r.Intn(15) == 0 {
		l = slices.Insert(l, r.Intn(len(l)+1), wrong()[r.Intn(len(wrong()))])
	}
	return l
}

// places are some cells, at times with what is none.
func (r maker) places() (l []api.Addr) {
	for range r.Intn(r.size * 2) {
		l = append(l, r.place())
	}
	if r.Intn(8) == 0 {
		l = append(l, outside()[r.Intn(len(outside()))])
	}
	return l
}

// P13.1, P13.2: scripts at random; behind each step all is as the model has it.
func TestScripts(t *testing.T) {
	for _, size := range []int{2, 3, 4} {
		r := maker{rand.New(rand.NewSource(int64(size))), size}
		for range 250 {
			g, m := New(), model{}
			for range 6 * size {
				a, l := r.place(), r.areas()
				if r.Intn(20) == 0 {
					a = outside()[r.Intn(len(outside()))]
				}
				if err, want := g.Set(a, l), m.set(a, l); err != want {
					t.Fatal(a, l, err, want)
				}
				alike(t, g, m, r.places())
			}
		}
	}
}

// P13.3: Reach is Direct again and again; who is no loop stands behind what it depends on, and all are told that are none.
func TestDirectAgainAndAgain(t *testing.T) {
	r := maker{rand.New(rand.NewSource(7)), 6}
	for range 400 {
		g := New()
		for range 30 {
			g.Set(r.place(), r.areas())
		}
		l := r.places()
		all := g.Direct(l)
		for range g.Cells() {
			all = g.Direct(append(slices.Clone(l), all...))
		}
		if got := g.Reach(l); !slices.Equal(got, all) {
			t.Fatal(shown(g), l, names(got), names(all))
		}
		loops, order := g.Loops(), g.Order(g.Cells())
		if len(loops)+len(order) != len(g.Cells()) {
			t.Fatal(shown(g), names(loops), names(order))
		}
		for i, a := range order {
			behind := g.Reach([]api.Addr{a})
			if slices.ContainsFunc(order[:i+1], func(b api.Addr) bool { return slices.Contains(behind, b) }) {
				t.Fatal(shown(g), names(order), a)
			}
		}
		for _, a := range loops {
			if !slices.Contains(g.Reach([]api.Addr{a}), a) {
				t.Fatal(shown(g), a)
			}
		}
	}
}

// P13.2, P13.3: what is told hangs on the edges alone, not on the order in which they were set, nor on what was there before.
func TestOrderOfSets(t *testing.T) {
	r := maker{rand.New(rand.NewSource(8)), 4}
	for range 200 {
		g := New()
		for range 15 {
			g.Set(r.place(), r.areas())
		}
		l, asked := g.Cells(), r.places()
		want := fmt.Sprint(shown(g), g.Loops(), g.Direct(asked), g.Reach(asked), g.Order(asked))
		for range 3 {
			other := New()
			for range 10 {
				other.Set(r.place(), r.areas())
			}
			for _, a := range other.Cells() {
				other.Set(a, nil)
			}
			r.Shuffle(len(l), func(i, k int) { l[i], l[k] = l[k], l[i] })
			for _, a := range l {
				other.Set(a, g.Edges(a))
			}
			if got := fmt.Sprint(shown(other), other.Loops(), other.Direct(asked), other.Reach(asked), other.Order(asked)); got != want {
				t.Fatal(got, want)
			}
		}
	}
}

// four are the cells of the graphs that are gone through all, as cells go.
func four() []api.Addr { return cells("A1 B1 A2 B2") }

// P13.2: all ways in which four cells may refer to each other and themselves.
func TestAllFourCells(t *testing.T) {
	l := four()
	ways := turns(4)
	g := New()
	for graph := range 1 << 16 {
		var on [4]int // the cells that each one depends on, as bits
		for i := range on {
			on[i] = graph >> (4 * i) & 15
			if graph == 0 || on[i] != (graph-1)>>(4*i)&15 {
				g.Set(l[i], some(on[i]))
			}
		}
		refs := on
		for k := range on {
			for i := range on {
				if on[i]>>k&1 == 1 {
					on[i] |= on[k]
				}
			}
		}
		asked := graph * 7 % 15 // another list each time
		var loops, direct, reach, todo int
		for i := range on {
			loops |= on[i] >> i & 1 << i
			if refs[i]&asked != 0 {
				direct |= 1 << i
			}
			if on[i]&asked != 0 {
				reach |= 1 << i
			}
			if refs[i] != 0 {
				todo |= 1 << i
			}
		}
		todo &^= loops
		if names(g.Loops()) != text(loops) || names(g.Direct(listed(asked))) != text(direct) || names(g.Reach(listed(asked))) != text(reach) {
			t.Fatal(shown(g), text(asked), names(g.Loops()), names(g.Direct(listed(asked))), names(g.Reach(listed(asked))))
		}
		for _, of := range []int{15, asked} {
			if got, want := names(g.Order(listed(of))), least(ways, todo&of, on); got != want {
				t.Fatal(shown(g), text(of), got, want)
			}
		}
	}
}

// some are the cells of those bits, each as a rectangle.
func some(set int) (l []api.Rect) {
	for _, a := range listed(set) {
		l = append(l, api.Rect{From: a, To: a})
	}
	return l
}

// listed are the cells of those bits, as cells go.
func listed(set int) (l []api.Addr) {
	for i, a := range four() {
		if set>>i&1 == 1 {
			l = append(l, a)
		}
	}
	return l
}

// text are the cells of those bits, as a text.
func text(set int) string { return names(listed(set)) }

// turns are all orders of that many, the least first.
func turns(count int) [][]int {
	if count == 0 {
		return [][]int{nil}
	}
	var l [][]int
	for first := range count {
		for _, rest := range turns(count - 1) {
			one := []int{first}
			for _, i := range rest {
				if i >= first {
					i++
				}
				one = append(one, i)
			}
			l = append(l, one)
		}
	}
	return l
}

// least is the least of all orders of the cells of set in which each is behind all that it depends on, as a text.
func least(ways [][]int, set int, on [4]int) string {
	for _, way := range ways {
		var l []api.Addr
		left, ok := set, true
		for _, i := range way {
			if set>>i&1 == 1 {
				ok = ok && on[i]&left == 0
				left &^= 1 << i
				l = append(l, four()[i])
			}
		}
		if ok {
			return names(l)
		}
	}
	return "none"
}
