package calc

import (
	"fmt"
	"math"
	"slices"
	"testing"

	"pannier/api"
	"pannier/source"
	"pannier/value"
)

// loads holds what Load answers, and that it changes nothing but the cell, and nothing at all where it is refused; Asked stays in each case.
func loads(t *testing.T, c *Calc, a api.Addr, src string, v api.Value, want api.Errno) {
	t.Helper()
	before, asked, s := shown(c), c.Asked(), c.Sheet()
	others := map[api.Addr]api.Value{}
	for _, b := range c.Cells() {
		if b != a {
			others[b] = c.Value(b)
		}
	}
	if err := c.Load(a, src, v); err != want {
		t.Errorf("%v %q %v: %v, not %v", a, src, v, err, want)
	}
	if !slices.Equal(asked, c.Asked()) {
		t.Errorf("%v %q %v: asked %v, and before %v", a, src, v, c.Asked(), asked)
	}
	if want != api.OK {
		if shown(c) != before || !slices.Equal(c.Sheet().List(), s.List()) {
			t.Errorf("%v %q %v: refused, and it changed %s", a, src, v, shown(c))
		}
		return
	}
	s.Do(api.Edit{Kind: api.Set, A: a, Src: src})
	alike(t, c, s, false)
	if c.Value(a) != v || c.Source(a) != src || len(c.Cells()) != len(others)+1 {
		t.Errorf("%v %q %v: %q %v", a, src, v, c.Source(a), c.Value(a))
	}
	for b, v := range others {
		if c.Value(b) != v {
			t.Errorf("%v %q %v: %v came to %v, and was %v", a, src, v, b, c.Value(b), v)
		}
	}
}

// goodValues are values of all sorts that a cell may have.
func goodValues() []api.Value {
	return []api.Value{
		integer(0), integer(5), integer(math.MaxInt64), integer(math.MinInt64), {Kind: api.Bool}, {Kind: api.Bool, N: 1}, {Kind: api.Text}, value.Of("x"), value.Of("5"), value.Of("\x00\xff"), value.Of(many("x", 200)),
		value.Fail(api.Div), value.Fail(api.Over), value.Fail(api.Type), value.Fail(api.Ref), value.Fail(api.Args), value.Fail(api.Loop), value.Fail(api.Long), value.Fail(api.None),
	}
}

// wrongValues are values that no cell has.
func wrongValues() []api.Value {
	return []api.Value{
		{}, {N: 1}, {S: "x"}, {Kind: -1}, {Kind: 5}, {Kind: 9}, {Kind: 1 << 32}, {Kind: math.MaxInt}, {Kind: math.MinInt}, {Kind: 1<<32 + api.Int}, {Kind: api.Bool, N: 2}, {Kind: api.Bool, N: -1}, {Kind: api.Bool, S: "x"}, {Kind: api.Int, S: "x"}, {Kind: api.Text, N: 1}, {Kind: api.Text, S: many("x", 201)},
		{Kind: api.Fault}, {Kind: api.Fault, N: 9}, {Kind: api.Fault, N: -1}, {Kind: api.Fault, N: api.Div, S: "x"},
	}
}

// cleanSources are sources as source.Clean tells them.
func cleanSources() []string {
	return []string{
		"0", "5", "-7", "TRUE", "FALSE", "text", " ", "05", "'", "'12", "'TRUE", "''", "\x00\n\xff", many("x", 200), "'" + many("1", 18), many("1", 200),
		"=1", "=A1+1", "=SUM(A1:B2,\"a b\")", "=-A1", "=1/0", "=F(1)", "=C3", "=SUM(A1:AX1000)", "=A1:A1", "=(1+2)*3",
	}
}

// P14.3: each clean source with each value is loaded, and told as it was given, over whatever the cell had.
func TestLoad(t *testing.T) {
	for _, there := range []string{"", "9", "=1", "=A1", "=C3", "=SUM(A1:D4)"} {
		c := New()
		for _, e := range []api.Edit{set("A1", "3"), set("B1", "=C3&1"), set("D1", "=ISERR(B1)"), set("C3", there)} {
			done(t, c, e)
		}
		for _, src := range cleanSources() {
			if clean, _, err := source.Clean(src); clean != src || err != api.OK {
				t.Fatalf("%q %q %v", src, clean, err)
			}
			for _, v := range goodValues() {
				loads(t, c, cell("C3"), src, v, api.OK)
			}
		}
	}
}

// P14.3: into a new calc, and at the grid's ends.
func TestLoadAtTheEnds(t *testing.T) {
	c := New()
	for i, name := range []string{"AX1000", "A1", "AX1", "A1000", "B2"} {
		loads(t, c, cell(name), "=A1+"+fmt.Sprint(i), integer(i*i), api.OK)
	}
	comes(t, c, "A1 1, AX1 4, B2 16, A1000 9, AX1000 0")
	asks(t, c, "")
}

// P14.3: what is wrong, in the chapter's order: the place, the source as such, that it is empty or not clean or the value wrong, too many.
func TestLoadRefuses(t *testing.T) {
	small, all := made(t, "A1 5; B1 =A1; C1 =B1&1"), full(t).Calc
	done(t, small, set("A1", "6")) // so there are cells that were asked
	asks(t, small, "B1 C1")
	var wrong []string // each wrong, but no error
	for _, src := range []string{"", " =1", "= 1", "=1 ", "=a1", "=(1)", "=01", "=sum(A1)", "='x'", "'x", "'=A1", "'a", "=B2:A1", "=\"a\" ", "=true", "+5", "'05"} {
		if clean, _, err := source.Clean(src); err == api.OK && (clean != src || src == "") {
			wrong = append(wrong, src)
		}
	}
	if len(wrong) < 12 {
		t.Fatalf("%q", wrong)
	}
	for i, c := range []*Calc{small, all} {
		for _, a := range outside() {
			for _, src := range []string{"1", "", "=1+", "= 1"} {
				if i == 0 {
					loads(t, c, a, src, integer(1), api.ErrGrid)
				}
				if err := c.Load(a, src, api.Value{}); err != api.ErrGrid {
					t.Error(a, src, err)
				}
			}
		}
		for _, name := range []string{"A1", "B1", "C1", "Z9"} {
			for _, x := range wrongSources() {
				if i == 0 {
					loads(t, c, cell(name), x.src, integer(1), x.err)
				}
				if err := c.Load(cell(name), x.src, api.Value{}); err != x.err {
					t.Errorf("%q %v", x.src, err)
				}
			}
			for _, src := range wrong {
				for _, v := range []api.Value{integer(1), {}} {
					if err := c.Load(cell(name), src, v); err != api.ErrForm {
						t.Errorf("%q %v", src, err)
					}
				}
				if i == 0 {
					loads(t, c, cell(name), src, integer(1), api.ErrForm)
				}
			}
			for _, v := range wrongValues() {
				for _, src := range []string{"5", "=A1", "x"} {
					if err := c.Load(cell(name), src, v); err != api.ErrForm {
						t.Error(src, v, err)
					}
				}
				if i == 0 {
					loads(t, c, cell(name), "=A1", v, api.ErrForm)
				}
			}
		}
	}
	loads(t, all, cell("B1"), "1", integer(1), api.ErrMany)
}

// P14.3: as many cells as may be, one more, and one more behind one that was taken out; a cell that is there may be loaded.
func TestLoadMany(t *testing.T) {
	c := New()
	for i := range api.MaxCells {
		if err := c.Load(at(i+1, 7), "=A1", integer(i)); err != api.OK {
			t.Fatal(i, err)
		}
	}
	loads(t, c, cell("A1"), "5", integer(5), api.ErrMany)
	loads(t, c, cell("AX1000"), "=B1", integer(5), api.ErrMany)
	if _, err := c.Do(set("A1", "5")); err != api.ErrMany {
		t.Error(err)
	}
	loads(t, c, cell("G1"), "5", integer(6), api.OK)
	loads(t, c, cell("G1000"), "=G1", value.Of("x"), api.OK)
	done(t, c, empty("G500"))
	loads(t, c, cell("A2"), "=G1", integer(8), api.OK)
	loads(t, c, cell("A1"), "5", integer(5), api.ErrMany)
	loads(t, c, cell("G500"), "5", integer(5), api.ErrMany)
	done(t, c, wipe("G997", "AX1000"))
	for i, want := range []api.Errno{api.OK, api.OK, api.OK, api.OK, api.ErrMany} {
		loads(t, c, at(i+900, 9), "=1", integer(7), want)
	}
	done(t, c, wipe("A1", "AX1000"))
	loads(t, c, cell("A1"), "5", integer(5), api.OK)
	comes(t, c, "A1 5")
}

// P14.3: edits behind loads go on from what was loaded: what they concern is told anew, and nothing else.
func TestEditsBehindLoads(t *testing.T) {
	c := New()
	loads(t, c, cell("A1"), "7", integer(70), api.OK)
	loads(t, c, cell("B1"), "=A1+1", integer(5), api.OK)
	loads(t, c, cell("C1"), "=B1+D1", integer(6), api.OK)
	loads(t, c, cell("E1"), "=A1&C1", value.Of("e"), api.OK)
	loads(t, c, cell("F1"), "=F1", integer(9), api.OK)
	for _, x := range []struct {
		e     api.Edit
		want  string
		asked string
	}{
		{set("Z9", "=1"), "A1 70, B1 5, C1 6, E1 e, F1 9, Z9 1", "Z9"},
		{set("A1", "7"), "A1 70, B1 5, C1 6, E1 e, F1 9, Z9 1", ""},                      // its source is the same
		{set("D1", "=A1"), "A1 70, B1 5, C1 75, D1 70, E1 7075, F1 9, Z9 1", "C1 D1 E1"}, // of 5 and 70, as they were given
		{set("G1", "=F1+1"), "A1 70, B1 5, C1 75, D1 70, E1 7075, F1 9, G1 10, Z9 1", "G1"},
		{set("A1", "70"), "A1 70, B1 71, C1 141, D1 70, E1 70141, F1 9, G1 10, Z9 1", "B1 C1 D1 E1"}, // its value is the same
		{set("F1", "=F1&F2"), "A1 70, B1 71, C1 141, D1 70, E1 70141, F1 #LOOP, G1 #LOOP, Z9 1", "G1"},
		{set("F1", "2"), "A1 70, B1 71, C1 141, D1 70, E1 70141, F1 2, G1 3, Z9 1", "G1"},
	} {
		done(t, c, x.e)
		comes(t, c, x.want)
		if got := names(c.Asked()); got != x.asked {
			t.Errorf("%v: %s, not %s", x.e, got, x.asked)
		}
	}
	alike(t, c, c.Sheet(), true)
}

// P14.3: references that a load took are asked no more; those that it made are.
func TestLoadedReferences(t *testing.T) {
	c := made(t, "A1 1; B1 =A1; C1 =B1")
	loads(t, c, cell("B1"), "=Z9", integer(5), api.OK)
	comes(t, c, "A1 1, B1 5, C1 1")
	done(t, c, set("A1", "2"))
	asks(t, c, "")
	comes(t, c, "A1 2, B1 5, C1 1")
	done(t, c, set("Z9", "3"))
	asks(t, c, "B1 C1")
	comes(t, c, "A1 2, B1 3, C1 3, Z9 3")
	loads(t, c, cell("B1"), "x", value.Of("y"), api.OK)
	done(t, c, set("Z9", "4"))
	asks(t, c, "")
	comes(t, c, "A1 2, B1 y, C1 3, Z9 4")
	loads(t, c, cell("Z9"), "=C1", integer(8), api.OK)
	loads(t, c, cell("B1"), "=Z9", integer(9), api.OK) // a ring, of which nothing is told
	comes(t, c, "A1 2, B1 9, C1 3, Z9 8")
	done(t, c, set("D1", "=B1+1"))
	comes(t, c, "A1 2, B1 9, C1 3, D1 10, Z9 8")
	done(t, c, set("C1", "= B1 "))
	asks(t, c, "")
	done(t, c, set("C1", "=B1+A1"))
	asks(t, c, "D1")
	comes(t, c, "A1 2, B1 #LOOP, C1 #LOOP, D1 #LOOP, Z9 #LOOP")
	done(t, c, set("C1", "4"))
	asks(t, c, "B1 D1 Z9")
	comes(t, c, "A1 2, B1 4, C1 4, D1 5, Z9 4")
	alike(t, c, c.Sheet(), true)
}

// P14.3: Asked is of the last Do, be there loads behind it or not.
func TestLoadAndAsked(t *testing.T) {
	c := made(t, "B1 =A1; C1 =B1")
	loads(t, c, cell("A1"), "1", integer(1), api.OK)
	asks(t, c, "C1")
	done(t, c, set("A1", "2"))
	asks(t, c, "B1 C1")
	loads(t, c, cell("A1"), "1", integer(1), api.OK)
	loads(t, c, cell("B1"), "1", integer(1), api.OK)
	asks(t, c, "B1 C1")
	done(t, c, set("A1", "1"))
	asks(t, c, "")
}
