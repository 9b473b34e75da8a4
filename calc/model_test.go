package calc

import (
	"math/rand"
	"slices"
	"strings"
	"testing"

	"pannier/addr"
	"pannier/api"
	"pannier/eval"
	"pannier/sheet"
	"pannier/source"
	"pannier/value"
)

// in tells whether a is in one of the rectangles.
func in(l []api.Rect, a api.Addr) bool {
	return slices.ContainsFunc(l, func(r api.Rect) bool {
		return r.From.Row <= a.Row && a.Row <= r.To.Row && r.From.Col <= a.Col && a.Col <= r.To.Col
	})
}

// spread puts all cells of a sheet that depend on one of those that are there already beside them.
func spread(s *sheet.Sheet, l map[api.Addr]int) {
	edges := map[api.Addr][]api.Rect{}
	for _, a := range s.Cells() {
		if refs := s.Edges(a); len(refs) > 0 {
			edges[a] = refs
		}
	}
	var todo []api.Addr
	for a := range l {
		todo = append(todo, a)
	}
	for i := 0; i < len(todo); i++ {
		for a, refs := range edges {
			if _, there := l[a]; !there && in(refs, todo[i]) {
				l[a] = 0
				todo = append(todo, a)
			}
		}
	}
}

// changed are the cells that have another source in one sheet than in the other.
func changed(ahead, behind *sheet.Sheet) map[api.Addr]int {
	l := map[api.Addr]int{}
	for _, s := range []*sheet.Sheet{ahead, behind} {
		for _, a := range s.Cells() {
			if ahead.Source(a) != behind.Source(a) {
				l[a] = 0
			}
		}
	}
	return l
}

// concerned are the cells that an edit concerns which makes one sheet of the other.
func concerned(ahead, behind *sheet.Sheet) map[api.Addr]int {
	all := changed(ahead, behind)
	for _, s := range []*sheet.Sheet{ahead, behind} {
		l := changed(ahead, behind)
		spread(s, l)
		for a := range l {
			all[a] = 0
		}
	}
	return all
}

// isFormula tells whether a cell of a sheet has a formula.
func isFormula(s *sheet.Sheet, a api.Addr) bool { return strings.HasPrefix(s.Source(a), "=") }

// fair holds Asked, behind an edit that made one sheet of the other: as cells go, each once, formulas that the edit concerns alone; and of these all that must be, since their source is another one, or their value, and that is no loop's.
func fair(t *testing.T, c *Calc, ahead, behind *sheet.Sheet) {
	t.Helper()
	asked := c.Asked()
	may := concerned(ahead, behind)
	for i, a := range asked {
		if i > 0 && 100*asked[i-1].Row+asked[i-1].Col >= 100*a.Row+a.Col {
			t.Error("not as cells go", names(asked))
		}
		if _, ok := may[a]; !ok || !isFormula(behind, a) {
			t.Error("asked, and not concerned, or no formula", addr.Name(a), behind.List())
		}
	}
	was := map[api.Addr]api.Value{}
	for _, e := range ahead.Values() {
		was[e.A] = e.V
	}
	for _, e := range behind.Values() {
		other := ahead.Source(e.A) != behind.Source(e.A) || was[e.A] != e.V
		if other && isFormula(behind, e.A) && e.V != value.Fail(api.Loop) && !slices.Contains(asked, e.A) {
			t.Error("not asked", addr.Name(e.A), names(asked), behind.List())
		}
	}
}

// model is a calc as the chapter's words have it: a sheet, and beside it values, which are told anew where an edit concerns them.
type model struct {
	sheet *sheet.Sheet
	known map[api.Addr]api.Value
}

// do is what Do must answer; e is done, if it may be.
func (m *model) do(e api.Edit) (int, api.Errno) {
	ahead := m.sheet.Copy()
	place, err := m.sheet.Do(e)
	l := concerned(ahead, m.sheet)
	for a := range l {
		delete(m.known, a)
	}
	var todo []api.Addr
	for a := range l {
		x, _, _ := source.Read(m.sheet.Source(a))
		self := map[api.Addr]int{a: 0}
		spread(m.sheet, self)
		inRing := slices.ContainsFunc(m.sheet.Cells(), func(b api.Addr) bool {
			_, depends := self[b]
			return depends && in(m.sheet.Edges(a), b)
		})
		switch {
		case x.Kind == 1:
			m.known[a] = x.V
		case x.Kind == 2 && inRing:
			m.known[a] = value.Fail(api.Loop)
		case x.Kind == 2:
			todo = append(todo, a)
		}
	}
	for range len(todo) { // each time round, one more at least
		for _, a := range todo {
			m.reckon(a)
		}
	}
	return place, err
}

// reckon tells the value of a formula, if all that it refers to are known.
func (m *model) reckon(a api.Addr) {
	var l []api.Entry
	for _, b := range m.sheet.Cells() {
		if in(m.sheet.Edges(a), b) {
			v, ok := m.known[b]
			if !ok {
				return
			}
			l = append(l, api.Entry{A: b, V: v})
		}
	}
	x, _, _ := source.Read(m.sheet.Source(a))
	m.known[a] = eval.Of(x.N, l)
}

// load is what Load must answer; the cell is loaded, if it may be.
func (m *model) load(a api.Addr, src string, v api.Value) api.Errno {
	clean, _, err := source.Clean(src)
	switch {
	case a.Row < 1 || a.Row > 1000 || a.Col < 1 || a.Col > 50:
		return api.ErrGrid
	case err != api.OK:
		return err
	case src == "" || src != clean || !value.Good(v) || v.Kind == api.Empty:
		return api.ErrForm
	}
	if _, err := m.sheet.Do(api.Edit{Kind: api.Set, A: a, Src: src}); err != api.OK {
		return err
	}
	m.known[a] = v
	return api.OK
}

// maker makes edits at random, of cells that lie close to each other.
type maker struct{ *rand.Rand }

// one is one of the texts.
func (r maker) one(l ...string) string { return l[r.Intn(len(l))] }

// place is a cell's name, in small letters at times.
func (r maker) place() string { return r.one("A", "B", "C", "b", "c") + r.one("1", "2", "3") }

// area is a rectangle's name, or a cell's.
func (r maker) area() string {
	return r.one(r.place(), r.place()+":"+r.place(), r.place()+":"+r.place(), "A1:AX1000", "A2:C2", "C5:AX1000")
}

// part is a formula, of some depth at most.
func (r maker) part(depth int) string {
	if depth == 0 {
		return r.one(r.place(), r.place(), r.place(), r.area(), "1", "0", "2", "TRUE", `"x"`, "-3", "Z9", " "+r.place()+" ")
	}
	sub := func() string { return r.part(depth - 1) }
	switch r.Intn(10) {
	case 0, 1, 2:
		return sub() + r.one("+", "-", "*", "/", "&", "=", "<") + r.part(0)
	case 3, 4:
		return r.one("SUM", "max", "COUNT", "COUNTA", "JOIN", "AND") + "(" + sub() + "," + r.area() + ")"
	case 5:
		return "IF(" + sub() + "," + sub() + "," + sub() + ")"
	case 6:
		return r.one("IFERR", "MATCH", "CHOOSE") + "(" + sub() + "," + r.area() + ")"
	case 7:
		return r.one("ISERR", "ISEMPTY", "NOT", "LEN", "TEXT", "ISINT") + "(" + sub() + ")"
	case 8:
		return "INDEX(" + r.area() + "," + r.one("1", "2", r.place()) + ",1)"
	}
	return r.one(sub(), "F("+sub()+")", "1/0")
}

// src is a source, a wrong one at times.
func (r maker) src() string {
	switch r.Intn(10) {
	case 0:
		return r.one("", "", "5", "-1", "TRUE", "FALSE", "x", "'12", "'", " ")
	case 1:
		return r.one("0", "1", "2", "3", "'A1", "=1+", "=$", "=1/", "=A1001", many("x", 201))
	case 2, 3, 4, 5:
		return "=" + r.place() + r.one("", "", "+1", "&1")
	}
	return "=" + r.part(r.Intn(3))
}

// edit is an edit, a wrong one at times.
func (r maker) edit() api.Edit {
	e := api.Edit{A: at(1+r.Intn(3), 1+r.Intn(3)), R: api.Rect{From: at(1+r.Intn(3), 1+r.Intn(3)), To: at(1+r.Intn(3), 1+r.Intn(3))}, Src: r.src()}
	switch r.Intn(20) {
	case 0:
		e.Kind = r.Intn(8) - 2
	case 1, 2:
		e.Kind = api.Clear
	case 3:
		e.Kind = api.Wipe
	case 4:
		e.Kind, e.A = 1+r.Intn(3), outside()[r.Intn(len(outside()))]
	default:
		e.Kind = api.Set
	}
	if r.Intn(40) == 0 {
		e.A = at(1000, 50)
	}
	return e
}

// value is a value, one that is not good at times.
func (r maker) value() api.Value {
	return []api.Value{integer(r.Intn(9)), integer(r.Intn(9)), value.Of("x"), value.Of("5"), {Kind: api.Bool, N: int64(r.Intn(2))}, value.Fail(api.Div), value.Fail(api.Loop), {}, {Kind: 9}, {Kind: api.Bool, N: 2}}[r.Intn(10)]
}

// P14.1, P14.2, P14.4: scripts at random; behind each edit all is as a sheet has it, and no cell was asked that it does not concern.
func TestScripts(t *testing.T) {
	r := maker{rand.New(rand.NewSource(1))}
	for range 400 {
		b := twice()
		for range 40 {
			e := r.edit()
			place, err := b.sheet.May(e)
			b.does(t, e, place, err)
		}
	}
}

// P14.3: scripts of edits and loads at random; behind each all is as the model has it.
func TestLoadScripts(t *testing.T) {
	r := maker{rand.New(rand.NewSource(2))}
	for range 400 {
		c, m := New(), &model{sheet.New(), map[api.Addr]api.Value{}}
		for range 40 {
			e, ahead := r.edit(), m.sheet.Copy()
			var place int
			var err api.Errno
			if r.Intn(3) > 0 {
				place, err = c.Do(e)
				if p, want := m.do(e); place != p || err != want {
					t.Fatal(e, place, err, p, want)
				}
				may := concerned(ahead, m.sheet)
				for _, a := range c.Asked() {
					if _, ok := may[a]; !ok || !isFormula(m.sheet, a) {
						t.Fatal(e, names(c.Asked()), ahead.List())
					}
				}
			} else {
				if clean, _, _ := source.Clean(e.Src); r.Intn(4) > 0 {
					e.Src = clean
				}
				v, asked := r.value(), c.Asked()
				err = c.Load(e.A, e.Src, v)
				if want := m.load(e.A, e.Src, v); err != want {
					t.Fatal(e, v, err, want)
				}
				if !slices.Equal(asked, c.Asked()) {
					t.Fatal(e, v, asked, c.Asked())
				}
			}
			alike(t, c, m.sheet, false)
			for _, a := range m.sheet.Cells() {
				if c.Value(a) != m.known[a] {
					t.Fatal(e, addr.Name(a), c.Value(a), m.known[a], ahead.List(), m.sheet.List())
				}
			}
		}
	}
}

// P14.4: a calc that was loaded with what another one tells goes on as that does.
func TestLoadedAnew(t *testing.T) {
	r := maker{rand.New(rand.NewSource(3))}
	for range 300 {
		b := twice()
		for range 25 {
			e := r.edit()
			place, err := b.sheet.May(e)
			b.does(t, e, place, err)
		}
		other := both{New(), b.sheet}
		cells := b.Cells()
		r.Shuffle(len(cells), func(i, k int) { cells[i], cells[k] = cells[k], cells[i] })
		for _, a := range cells {
			if err := other.Load(a, b.Source(a), b.Value(a)); err != api.OK {
				t.Fatal(a, err)
			}
		}
		asks(t, other.Calc, "")
		alike(t, other.Calc, b.sheet, true)
		for range 10 {
			e := r.edit()
			place, err := b.sheet.May(e)
			b.Do(e)
			other.does(t, e, place, err)
			if shown(other.Calc) != shown(b.Calc) || !slices.Equal(other.Asked(), b.Asked()) {
				t.Fatal(e, shown(other.Calc), shown(b.Calc), other.Asked(), b.Asked())
			}
		}
	}
}

// P14.4: whatever came one behind the other: the same edits of each cell, in another order between cells, come to the same values.
func TestOrderOfEdits(t *testing.T) {
	r := maker{rand.New(rand.NewSource(4))}
	for range 300 {
		c := New()
		for range 25 {
			c.Do(r.edit())
		}
		want, l := shown(c), c.Sheet().List()
		for range 3 {
			other := New()
			r.Shuffle(len(l), func(i, k int) { l[i], l[k] = l[k], l[i] })
			for _, e := range l {
				other.Do(api.Edit{Kind: api.Set, A: e.A, Src: r.src()})
				done(t, other, e)
			}
			if shown(other) != want {
				t.Fatal(l, shown(other), want)
			}
		}
	}
}
