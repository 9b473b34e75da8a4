package sheet

import (
	"fmt"
	"math/rand"
	"slices"
	"testing"

	"pannier/addr"
	"pannier/api"
	"pannier/eval"
	"pannier/refs"
	"pannier/source"
)

// model is a sheet as the chapter's words have it: clean sources by cells, and nothing else. Each thing that is asked is made of them anew, as plainly as can be.
type model map[api.Addr]string

// do is what Do must answer; e is done, if it may be.
func (m model) do(e api.Edit) (int, api.Errno) {
	switch {
	case e.Kind == api.Set && !addr.Good(e.A), e.Kind == api.Clear && !addr.Good(e.A), e.Kind == api.Wipe && !addr.Fine(e.R):
		return 0, api.ErrGrid
	case e.Kind == api.Set:
		clean, place, err := source.Clean(e.Src)
		if err != api.OK {
			return place, err
		}
		more := model{e.A: clean}
		for a, src := range m {
			if a != e.A {
				more[a] = src
			}
		}
		if more.fit(); len(more) > api.MaxCells {
			return 0, api.ErrMany
		}
		m[e.A] = clean
	case e.Kind == api.Clear:
		m[e.A] = ""
	case e.Kind == api.Wipe:
		for row := e.R.From.Row; row <= e.R.To.Row; row++ {
			for col := e.R.From.Col; col <= e.R.To.Col; col++ {
				m[at(row, col)] = ""
			}
		}
	default:
		return 0, api.ErrArg
	}
	m.fit()
	return 0, api.OK
}

// fit takes out the cells whose source is empty.
func (m model) fit() {
	for a, src := range m {
		if src == "" {
			delete(m, a)
		}
	}
}

// cells are those that have a source, as cells go.
func (m model) cells() (l []api.Addr) {
	for a := range m {
		l = append(l, a)
	}
	slices.SortFunc(l, func(a, b api.Addr) int { return 100*(a.Row-b.Row) + a.Col - b.Col })
	return l
}

// tree is the formula of a cell; a node of no kind, if it has none.
func (m model) tree(a api.Addr) api.Node {
	x, _, _ := source.Read(m[a])
	return x.N
}

// names tells whether a tree names a cell, by itself or in a range.
func names(n api.Node, a api.Addr) bool {
	switch n.Kind {
	case api.Cell:
		return n.R.From == a
	case api.Range:
		return n.R.From.Row <= a.Row && a.Row <= n.R.To.Row && n.R.From.Col <= a.Col && a.Col <= n.R.To.Col
	}
	return slices.ContainsFunc(n.Args, func(arg api.Node) bool { return names(arg, a) })
}

// values are the values of all cells: who reaches whom is spread until nothing more comes of it, then cells are reckoned one behind the other, as soon as all that they refer to are known.
func (m model) values() map[api.Addr]api.Value {
	l := m.cells()
	refer := make([][]bool, len(l))
	reach := make([][]bool, len(l))
	for i, a := range l {
		n := m.tree(a)
		for _, b := range l {
			refer[i] = append(refer[i], names(n, b))
		}
		reach[i] = slices.Clone(refer[i])
	}
	for k := range l {
		for i := range l {
			for j := range l {
				reach[i][j] = reach[i][j] || reach[i][k] && reach[k][j]
			}
		}
	}
	known := map[api.Addr]api.Value{}
	for range l { // each time round, one more at least
		for i, a := range l {
			var entries []api.Entry
			ready := true
			for j, b := range l {
				if v, ok := known[b]; refer[i][j] {
					ready = ready && ok
					entries = append(entries, api.Entry{A: b, V: v})
				}
			}
			x, _, _ := source.Read(m[a])
			switch {
			case x.Kind == 1:
				known[a] = x.V
			case reach[i][i]:
				known[a] = api.Value{Kind: api.Fault, N: api.Loop}
			case ready:
				known[a] = eval.Of(x.N, entries)
			}
		}
	}
	return known
}

// alike holds all that a sheet tells against a model.
func alike(t *testing.T, s *Sheet, m model) {
	t.Helper()
	cells, values, list := s.Cells(), s.Values(), s.List()
	if !slices.Equal(cells, m.cells()) || len(values) != len(cells) || len(list) != len(cells) {
		t.Fatal(m, cells, values, list)
	}
	for i, v := range m.values() {
		k := slices.Index(cells, i)
		if values[k] != (api.Entry{A: i, V: v}) || s.Value(i) != v {
			t.Fatal(m, i, values[k], s.Value(i), v)
		}
		if s.Source(i) != m[i] || list[k] != (api.Edit{Kind: api.Set, A: i, Src: m[i]}) || !slices.Equal(s.Edges(i), refs.Of(m.tree(i))) {
			t.Fatal(m, i, s.Source(i), list[k], s.Edges(i))
		}
	}
	for _, a := range []api.Addr{at(1, 1), at(2, 2), at(3, 3), at(1000, 50), at(500, 25), at(0, 0), at(1001, 1)} {
		if _, ok := m[a]; !ok && (s.Source(a) != "" || s.Value(a) != (api.Value{}) || len(s.Edges(a)) != 0) {
			t.Fatal(m, a)
		}
	}
}

// maker makes edits at random, of cells that lie close to each other.
type maker struct{ *rand.Rand }

// one is one of the texts.
func (r maker) one(l ...string) string { return l[r.Intn(len(l))] }

// place is a cell's name, in small letters at times.
func (r maker) place() string {
	return r.one("A", "B", "C", "b", "c") + r.one("1", "2", "3")
}

// area is a rectangle's name, or a cell's.
func (r maker) area() string {
	return r.one(r.place(), r.place()+":"+r.place(), r.place()+":"+r.place(), "A1:AX1000", "A2:C2", "C5:AX1000")
}

// part is a formula, of some depth at most.
func (r maker) part(depth int) string {
	if depth == 0 {
		return r.one(r.place(), r.place(), r.place(), r.area(), "1", "0", "2", "TRUE", `"x"`, "-3", "Z9", " "+r.place()+" ")
	}
	sub := func() string { return r.part(depth - 1) }
	switch r.Intn(12) {
	case 0, 1:
		return sub() + r.one("+", "-", "*", "/", "&", "=", "<") + r.part(0)
	case 2:
		return "(" + sub() + ")" + r.one("+", "%", "^", " <> ") + "(" + sub() + ")"
	case 3:
		return "-(" + sub() + ")"
	case 4, 5:
		return r.one("SUM", "max", "COUNT", "COUNTA", "JOIN", "AND") + "(" + sub() + "," + r.area() + ")"
	case 6:
		return "IF(" + sub() + "," + sub() + "," + sub() + ")"
	case 7:
		return r.one("IFERR", "MATCH", "CHOOSE") + "(" + sub() + "," + r.area() + ")"
	case 8:
		return r.one("ISERR", "ISEMPTY", "NOT", "LEN", "TEXT", "ISINT") + "(" + sub() + ")"
	case 9:
		return r.one("ROWS", "COLS") + "(" + r.area() + ")"
	case 10:
		return "INDEX(" + r.area() + "," + r.one("1", "2", r.place()) + ",1)"
	}
	return r.one(sub(), "F("+sub()+")", "1/0")
}

// src is a source, a wrong one at times.
func (r maker) src() string {
	switch r.Intn(10) {
	case 0:
		return r.one("", "", "5", "-1", "TRUE", "FALSE", "x", "'12", "'", " ")
	case 1:
		return r.one("0", "1", "2", "3", "'A1", "=1+", "=$", "=1/", "=A1001", many("x", 201))
	case 2, 3:
		return "=" + r.place()
	}
	return "=" + r.part(r.Intn(3))
}

// edit is an edit, a wrong one at times.
func (r maker) edit() api.Edit {
	e := api.Edit{A: at(1+r.Intn(3), 1+r.Intn(3)), R: api.Rect{From: at(1+r.Intn(3), 1+r.Intn(3)), To: at(1+r.Intn(3), 1+r.Intn(3))}, Src: r.src()}
	switch r.Intn(20) {
	case 0:
		e.Kind = r.Intn(8) - 2
	case 1, 2:
		e.Kind = api.Clear
	case 3:
		e.Kind = api.Wipe
	case 4:
		e.Kind, e.A = 1+r.Intn(3), outside()[r.Intn(len(outside()))]
	default:
		e.Kind = api.Set
	}
	if r.Intn(40) == 0 {
		e.A = at(1000, 50)
	}
	return e
}

// P12.1, P12.2: scripts at random; behind each edit all is as the model has it, and what was copied on the way stays.
func TestScripts(t *testing.T) {
	r := maker{rand.New(rand.NewSource(4))}
	for range 300 {
		s, m := New(), model{}
		var kept *Sheet
		var was string
		for step := range 40 {
			e := r.edit()
			may, bad := s.May(e)
			place, err := s.Do(e)
			if wantPlace, want := m.do(e); may != wantPlace || bad != want || place != wantPlace || err != want {
				t.Fatal(e, may, bad, place, err, wantPlace, want)
			}
			alike(t, s, m)
			if step == 20 {
				kept = s.Copy()
				was = shown(kept)
			}
		}
		if shown(kept) != was {
			t.Fatal("the copy is another")
		}
	}
}

// P12.3: the edits that List tells make the same sheet. P12.4: so do they in any other order, and with the edits of other cells between.
func TestOrderOfEdits(t *testing.T) {
	r := maker{rand.New(rand.NewSource(5))}
	for range 300 {
		s := New()
		for range 25 {
			s.Do(r.edit())
		}
		want, l := shown(s), s.List()
		for range 3 {
			other := New()
			r.Shuffle(len(l), func(i, k int) { l[i], l[k] = l[k], l[i] })
			for _, e := range l {
				other.Do(api.Edit{Kind: api.Set, A: e.A, Src: r.src()})
				done(t, other, e)
			}
			if shown(other) != want {
				t.Fatal(fmt.Sprint(l), shown(other), want)
			}
		}
	}
}

// P12.4: a value hangs on what a cell reaches alone: what is set elsewhere, or taken out, changes nothing of it.
func TestValueHangsOnReach(t *testing.T) {
	r := maker{rand.New(rand.NewSource(6))}
	places := []api.Addr{at(1000, 50)} // all that the maker sets, and some beside them
	for i := range 16 {
		places = append(places, at(i/4+1, i%4+1))
	}
	for range 200 {
		s, m := New(), model{}
		for range 25 {
			e := r.edit()
			s.Do(e)
			m.do(e)
		}
		for _, a := range s.Cells() {
			reach := []api.Addr{a}
			for i := 0; i < len(reach); i++ {
				for _, b := range places {
					if names(m.tree(reach[i]), b) && !slices.Contains(reach, b) {
						reach = append(reach, b)
					}
				}
			}
			c := s.Copy()
			for _, b := range places {
				if !slices.Contains(reach, b) {
					c.Do(api.Edit{Kind: api.Set, A: b, Src: r.src()})
				}
			}
			if got, want := c.Value(a), s.Value(a); got != want {
				t.Fatal(a, sources(s), sources(c), got, want)
			}
		}
	}
}
