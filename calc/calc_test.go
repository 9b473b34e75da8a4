package calc

import (
	"fmt"
	"math"
	"slices"
	"strings"
	"testing"
	"unsafe"

	"pannier/addr"
	"pannier/api"
	"pannier/sheet"
	"pannier/source"
	"pannier/value"
)

func at(row, col int) api.Addr { return api.Addr{Row: row, Col: col} }

// cell is the cell of that name.
func cell(name string) api.Addr {
	a, ok := addr.Parse(name)
	if !ok {
		panic(name)
	}
	return a
}

// names is a list of cells as a text: "A1 B2".
func names(l []api.Addr) string {
	var out []string
	for _, a := range l {
		out = append(out, addr.Name(a))
	}
	return strings.Join(out, " ")
}

func rect(from, to string) api.Rect { return api.Rect{From: cell(from), To: cell(to)} }

func set(name, src string) api.Edit { return api.Edit{Kind: api.Set, A: cell(name), Src: src} }

func empty(name string) api.Edit { return api.Edit{Kind: api.Clear, A: cell(name)} }

func wipe(from, to string) api.Edit { return api.Edit{Kind: api.Wipe, R: rect(from, to)} }

func many(s string, n int) string { return strings.Repeat(s, n) }

func integer(n int) api.Value { return api.Value{Kind: api.Int, N: int64(n)} }

func loop(int) api.Value { return value.Fail(api.Loop) }

// outside are places that are no cells.
func outside() []api.Addr {
	return []api.Addr{
		{}, at(0, 1), at(1, 0), at(-1, 1), at(1, -1), at(1001, 1), at(1, 51), at(1001, 51), at(1000, 51), at(1001, 50), at(1, 64), at(1, 65),
		at(math.MaxInt, 1), at(1, math.MaxInt), at(math.MinInt, 1), at(1, math.MinInt), at(math.MaxInt, math.MaxInt), at(math.MinInt, math.MinInt),
	}
}

// crooked are rectangles that are not good.
func crooked() []api.Rect {
	l := []api.Rect{{}, rect("B2", "A1"), rect("B1", "A1"), rect("A2", "A1"), rect("B1", "A2"), rect("A2", "B1"), rect("AX1000", "A1")}
	for _, a := range outside() {
		l = append(l, api.Rect{From: a, To: cell("AX1000")}, api.Rect{From: cell("A1"), To: a}, api.Rect{From: a, To: a})
	}
	return l
}

// wrongSources are sources that there are not, each with the error and its place.
func wrongSources() []struct {
	src   string
	place int
	err   api.Errno
} {
	return []struct {
		src   string
		place int
		err   api.Errno
	}{
		{"=", 1, api.ErrParse}, {"=1+", 3, api.ErrParse}, {"= 1 +", 5, api.ErrParse}, {"=A0", 1, api.ErrParse}, {"=1 2", 3, api.ErrParse}, {"=SUM(A1", 7, api.ErrParse}, {"=AY1", 1, api.ErrParse},
		{"=$", 1, api.ErrToken}, {"=1+$", 3, api.ErrToken}, {`="x`, 1, api.ErrToken}, {"=9223372036854775808", 1, api.ErrToken}, {"=#LOOP", 1, api.ErrToken},
		{`=1+"` + many("x", 201) + `"`, 3, api.ErrParse}, {"=" + many("(", 60), 1, api.ErrDeep}, {"=" + many("-", 20) + "1", 1, api.ErrDeep},
		{many("x", 201), 0, api.ErrLong}, {"'" + many("x", 201), 0, api.ErrLong}, {many("x", 301), 0, api.ErrLong}, {"=" + many(" ", 299) + "1", 0, api.ErrLong}, {many("x", 100000), 0, api.ErrLong},
	}
}

// shown is all that a calc tells of its cells, as a text.
func shown(c *Calc) string {
	var b strings.Builder
	for _, a := range c.Cells() {
		fmt.Fprintf(&b, "%v %q %v %v\n", a, c.Source(a), c.Value(a), c.Edges(a))
	}
	return b.String()
}

// values is what a calc's cells come to, as a text: "A1 5, B1 #LOOP".
func values(c *Calc) string {
	var l []string
	for _, a := range c.Cells() {
		l = append(l, addr.Name(a)+" "+value.Show(c.Value(a)))
	}
	return strings.Join(l, ", ")
}

// comes holds a calc's values against a text as that of values.
func comes(t *testing.T, c *Calc, want string) {
	t.Helper()
	if got := values(c); got != want {
		t.Errorf("%s, not %s", got, want)
	}
}

// asks holds what Asked tells.
func asks(t *testing.T, c *Calc, want string) {
	t.Helper()
	if got := names(c.Asked()); got != want {
		t.Errorf("asked %s, not %s", got, want)
	}
}

// alike holds all that a calc tells, but Asked, against a sheet; values too, if they must be a sheet's.
func alike(t *testing.T, c *Calc, s *sheet.Sheet, too bool) {
	t.Helper()
	if own := c.Sheet(); !slices.Equal(c.Cells(), s.Cells()) || !slices.Equal(own.List(), s.List()) {
		t.Fatal(c.Cells(), s.Cells(), own.List())
	}
	for _, e := range s.Values() {
		if c.Source(e.A) != s.Source(e.A) || !slices.Equal(c.Edges(e.A), s.Edges(e.A)) || too && c.Value(e.A) != e.V {
			t.Fatal(addr.Name(e.A), c.Source(e.A), s.Source(e.A), c.Edges(e.A), c.Value(e.A), e.V)
		}
	}
	for _, a := range append(outside(), at(1, 1), at(2, 2), at(3, 3), at(9, 9), at(1000, 50), at(500, 25)) {
		if s.Source(a) == "" && (c.Source(a) != "" || c.Value(a) != (api.Value{}) || len(c.Edges(a)) != 0) {
			t.Fatal(a, c.Source(a), c.Value(a), c.Edges(a))
		}
	}
}

// both is a calc and a sheet of the same edits.
type both struct {
	*Calc
	sheet *sheet.Sheet
}

func twice() both { return both{New(), sheet.New()} }

// does holds Do of e against what it must answer, and the calc behind it against the sheet: all that it tells, and which cells it asked.
func (b both) does(t *testing.T, e api.Edit, place int, err api.Errno) {
	t.Helper()
	ahead := b.sheet.Copy()
	mine, myErr := b.Do(e)
	if theirs, theirErr := b.sheet.Do(e); mine != place || myErr != err || theirs != place || theirErr != err {
		t.Errorf("%v: %d %v, a sheet %d %v, not %d %v", e, mine, myErr, theirs, theirErr, place, err)
	}
	alike(t, b.Calc, b.sheet, true)
	if err != api.OK && (len(b.Asked()) != 0 || !slices.Equal(ahead.List(), b.sheet.List())) {
		t.Errorf("%v: refused, and it asked %s", e, names(b.Asked()))
	}
	fair(t, b.Calc, ahead, b.sheet)
}

// twiceMade is a calc and a sheet of names and sources, one behind the other.
func twiceMade(t *testing.T, l ...string) both {
	t.Helper()
	b := twice()
	for i := 0; i < len(l); i += 2 {
		b.does(t, set(l[i], l[i+1]), 0, api.OK)
	}
	return b
}

// done does an edit that may be done.
func done(t *testing.T, c *Calc, e api.Edit) {
	t.Helper()
	if place, err := c.Do(e); place != 0 || err != api.OK {
		t.Fatal(e, place, err)
	}
}

// made is a calc of a text: "A1 =B1; B1 5", one behind the other.
func made(t *testing.T, edits string) *Calc {
	t.Helper()
	c := New()
	for _, e := range strings.Split(edits, "; ") {
		name, src, _ := strings.Cut(e, " ")
		done(t, c, set(name, src))
	}
	return c
}

// full is a calc and a sheet in whose column A each cell has a source.
func full(t *testing.T) both {
	t.Helper()
	b := twice()
	for row := range api.MaxCells {
		e := api.Edit{Kind: api.Set, A: at(row+1, 1), Src: "1"}
		done(t, b.Calc, e)
		b.sheet.Do(e)
	}
	return b
}

// P14.1, P14.2, P14.3: what a nil calc answers, be the edit right or wrong.
func TestNil(t *testing.T) {
	var c *Calc
	for _, e := range []api.Edit{{}, set("A1", "1"), set("A1", ""), set("A1", "=1+"), {Kind: api.Set}, empty("A1"), {Kind: api.Clear}, wipe("A1", "B2"), {Kind: api.Wipe}, {Kind: 4}, {Kind: -1}} {
		if place, err := c.Do(e); place != 0 || err != api.ErrArg {
			t.Error(e, place, err)
		}
	}
	for _, a := range append(outside(), cell("A1"), cell("AX1000")) {
		if c.Source(a) != "" || c.Value(a) != (api.Value{}) || len(c.Edges(a)) != 0 {
			t.Error(a)
		}
		for _, src := range []string{"1", "", "=1+", "= 1"} {
			for _, v := range []api.Value{{}, integer(1), {Kind: 9}} {
				if err := c.Load(a, src, v); err != api.ErrArg {
					t.Error(a, src, v, err)
				}
			}
		}
	}
	if len(c.Cells()) != 0 || len(c.Asked()) != 0 || c.Sheet() != nil {
		t.Error(c.Cells(), c.Asked(), c.Sheet())
	}
}

// P14.1, P14.2: a new calc is empty, and each is another one.
func TestNew(t *testing.T) {
	c, other := New(), New()
	alike(t, c, sheet.New(), true)
	if c == nil || len(c.Cells()) != 0 || len(c.Asked()) != 0 || c.Sheet() == nil || c.Sheet() == c.Sheet() || len(c.Sheet().Cells()) != 0 {
		t.Error(c.Cells(), c.Asked(), c.Sheet())
	}
	done(t, c, set("A1", "=1"))
	comes(t, c, "A1 1")
	asks(t, c, "A1")
	comes(t, other, "")
	asks(t, other, "")
	comes(t, New(), "")
}

// P14.1: Set, with sources of each sort, over an empty cell, over constants and over formulas.
func TestSet(t *testing.T) {
	for _, src := range []string{
		"0", "5", "-7", "9223372036854775807", "-9223372036854775808", "9223372036854775808", "TRUE", "FALSE", "true", "text", " ", " 5", "05", "'", "'12", "'TRUE", "'x", "'=A1", "''", "' x", "\x00\n\xff", "",
		"=1", "= 1", "=001", "= a1 + 1", "=sum( b2 : a1 , \"a b\" )", "=(((1)))", "=true", "= - a1", "=1/0", "=F(1)", "=Z9", "=B7", "=SUM(A1:Z9)", "=A1:A1", many("x", 200), "'" + many("1", 200), "=" + many(" ", 298) + "1",
	} {
		for _, there := range []string{"", "5", "x", "=1", "=A1", "=C7+1", "=SUM(A1:D7)", "=B7"} {
			b := twiceMade(t, "A1", "3", "C7", "=B7&\"!\"", "D7", "=ISERR(C7)", "B7", there)
			b.does(t, set("B7", src), 0, api.OK)
			b.does(t, set("B7", src), 0, api.OK) // which changes nothing
			asks(t, b.Calc, "")
		}
	}
}

// P14.1: a cell that is set again, cleared, and set to nothing, and those that refer to it.
func TestSetAgain(t *testing.T) {
	b := twiceMade(t, "C3", "=B2&A1", "D3", "=COUNTA(A1:B2)")
	for _, x := range []struct {
		e    api.Edit
		want string
	}{
		{set("B2", "1"), "B2 1, C3 1, D3 1"}, {set("B2", "1"), "B2 1, C3 1, D3 1"}, {set("B2", "x"), "B2 x, C3 x, D3 1"}, {set("B2", "=a1"), "B2 0, C3 0, D3 1"}, {set("A1", "7"), "A1 7, B2 7, C3 77, D3 2"}, {set("B2", "TRUE"), "A1 7, B2 TRUE, C3 TRUE7, D3 2"},
		{set("B2", ""), "A1 7, C3 7, D3 1"}, {set("B2", ""), "A1 7, C3 7, D3 1"}, {set("B2", "'"), "A1 7, B2 , C3 7, D3 2"}, {empty("B2"), "A1 7, C3 7, D3 1"}, {empty("B2"), "A1 7, C3 7, D3 1"}, {set("B2", "=1/0"), "A1 7, B2 #DIV, C3 #DIV, D3 2"},
		{empty("A1"), "B2 #DIV, C3 #DIV, D3 1"}, {set("A1", "=B2"), "A1 #DIV, B2 #DIV, C3 #DIV, D3 2"}, {set("B2", "=D3"), "A1 #LOOP, B2 #LOOP, C3 #LOOP, D3 #LOOP"}, {set("A1", ""), "B2 #LOOP, C3 #LOOP, D3 #LOOP"}, {empty("D3"), "B2 0, C3 0"}, {wipe("B2", "C3"), ""}, {empty("C3"), ""}, {set("B2", ""), ""},
	} {
		b.does(t, x.e, 0, api.OK)
		comes(t, b.Calc, x.want)
	}
}

// P14.1: Wipe takes what is in the rectangle, its edges among it, and nothing else; what refers to it is told anew.
func TestWipe(t *testing.T) {
	for row := 1; row <= 4; row++ {
		for col := 1; col <= 4; col++ {
			for bottom := row; bottom <= 4; bottom++ {
				for right := col; right <= 4; right++ {
					b := twiceMade(t, "A1", "1", "B1", "=A1+C2", "C1", "=A1:B2", "D1", "=D2", "A2", "=COUNTA(B1:D4)", "B2", "7", "C2", "=SUM(B2:B4)", "D2", "=D1", "B3", "=E5", "C3", "x", "D3", "=IFERR(D2,D4)", "A4", "=C3&C4", "B4", "=B3+A1", "C4", "=B2", "D4", "=MAX(A1:B1,B2:C2)", "E5", "=COUNT(A1:D4)")
					e := api.Edit{Kind: api.Wipe, R: api.Rect{From: at(row, col), To: at(bottom, right)}}
					b.does(t, e, 0, api.OK)
					for _, a := range b.Cells() {
						if a.Row >= row && a.Row <= bottom && a.Col >= col && a.Col <= right {
							t.Error(e, a)
						}
					}
					b.does(t, e, 0, api.OK) // where nothing is
					asks(t, b.Calc, "")
				}
			}
		}
	}
}

// P14.1: the first and the last cell of the grid, and all of it.
func TestEndsOfTheGrid(t *testing.T) {
	b := twiceMade(t, "AX1000", "=A1", "A1", "5", "AX1", "=A1000", "A1000", "=SUM(A1:AX999)")
	comes(t, b.Calc, "A1 5, AX1 #LOOP, A1000 #LOOP, AX1000 5")
	b.does(t, set("AX1", "=AX1000+1"), 0, api.OK)
	comes(t, b.Calc, "A1 5, AX1 6, A1000 11, AX1000 5")
	b.does(t, wipe("A2", "AX999"), 0, api.OK)
	b.does(t, wipe("B1", "AW1000"), 0, api.OK)
	b.does(t, empty("A1"), 0, api.OK)
	comes(t, b.Calc, "AX1 1, A1000 1, AX1000 0")
	b.does(t, empty("AX1000"), 0, api.OK)
	b.does(t, wipe("A1000", "A1000"), 0, api.OK)
	b.does(t, set("B500", "=AX1"), 0, api.OK)
	comes(t, b.Calc, "AX1 1, B500 1")
	b.does(t, wipe("A1", "AX1000"), 0, api.OK)
	comes(t, b.Calc, "")
}

// P14.1, P14.2: there are three kinds of edits.
func TestWrongKinds(t *testing.T) {
	b := twiceMade(t, "A1", "5", "B1", "=A1")
	for _, kind := range []int{0, 4, 5, -1, -2, -3, 256, 257, 258, 259, 1 << 32, 1<<32 + 1, 1<<32 + 2, 1<<32 + 3, math.MaxInt, math.MinInt, math.MinInt + 1} {
		for _, e := range []api.Edit{{}, {A: cell("A1"), Src: "7", R: rect("A1", "B2")}, {A: cell("A1"), Src: "=1+"}, {Src: "=1+"}} {
			e.Kind = kind
			b.does(t, set("B1", "=A1+"+fmt.Sprint(kind&255)), 0, api.OK) // so there are cells that were asked
			b.does(t, e, 0, api.ErrArg)
			asks(t, b.Calc, "")
		}
	}
}

// P14.1, P14.2: a place that is no cell's is told ahead of what is wrong with Src, and of a full calc.
func TestOutside(t *testing.T) {
	b, all := twiceMade(t, "A1", "5", "B1", "=A1"), full(t)
	for _, a := range outside() {
		for _, src := range []string{"1", "", "=A1", "=1+", "=$", many("x", 301), "=" + many("(", 60)} {
			b.does(t, api.Edit{Kind: api.Set, A: a, Src: src, R: rect("A1", "A1")}, 0, api.ErrGrid)
		}
		b.does(t, api.Edit{Kind: api.Clear, A: a, Src: "1", R: rect("A1", "A1")}, 0, api.ErrGrid)
		if place, err := all.Do(api.Edit{Kind: api.Set, A: a, Src: "1"}); place != 0 || err != api.ErrGrid {
			t.Error(a, place, err)
		}
	}
	for _, r := range crooked() {
		b.does(t, api.Edit{Kind: api.Wipe, R: r, A: cell("A1"), Src: "1"}, 0, api.ErrGrid)
	}
	comes(t, b.Calc, "A1 5, B1 5")
	asks(t, b.Calc, "")
}

// P14.1, P14.2: a wrong Src is told as source.Clean tells it, in an empty cell and in one that has a source, in a full calc too.
func TestWrongSources(t *testing.T) {
	b, all := twiceMade(t, "A1", "5", "B1", "=A1"), full(t)
	for _, x := range wrongSources() {
		if _, place, err := source.Clean(x.src); place != x.place || err != x.err {
			t.Errorf("%q: %d %v", x.src, place, err)
		}
		for _, name := range []string{"A1", "B1", "C1", "AX1000"} {
			b.does(t, set("A1", "="+fmt.Sprint(len(x.src))+"+1"), 0, api.OK) // so there are cells that were asked
			b.does(t, set(name, x.src), x.place, x.err)
			asks(t, b.Calc, "")
			if place, err := all.Do(set(name, x.src)); place != x.place || err != x.err {
				t.Errorf("do %s %q: %d %v", name, x.src, place, err)
			}
		}
	}
	alike(t, all.Calc, all.sheet, true)
}

// P14.1: fields that a Kind does not name are not looked at.
func TestUnnamedFields(t *testing.T) {
	for _, r := range append(crooked(), rect("A1", "AX1000"), rect("A1", "A1")) {
		b := twiceMade(t, "A1", "5", "B1", "=A1", "C1", "x", "D1", "=B1&C1")
		b.does(t, api.Edit{Kind: api.Set, A: cell("B1"), Src: "=7", R: r}, 0, api.OK)
		comes(t, b.Calc, "A1 5, B1 7, C1 x, D1 7x")
		asks(t, b.Calc, "B1 D1")
		b.does(t, api.Edit{Kind: api.Set, A: cell("B1"), R: r}, 0, api.OK)
		comes(t, b.Calc, "A1 5, C1 x, D1 x")
		for _, x := range wrongSources() {
			b.does(t, api.Edit{Kind: api.Clear, A: cell("B9"), R: r, Src: x.src}, 0, api.OK)
			asks(t, b.Calc, "")
		}
		b.does(t, api.Edit{Kind: api.Clear, A: cell("C1"), R: r, Src: "1"}, 0, api.OK)
		comes(t, b.Calc, "A1 5, D1 ")
	}
	for _, a := range append(outside(), cell("A1"), cell("C3"), cell("D4")) {
		for _, src := range []string{"", "1", "5", "=1+", many("x", 301)} {
			b := twiceMade(t, "A1", "5", "B2", "=A1", "C3", "=B2+1")
			b.does(t, api.Edit{Kind: api.Wipe, A: a, R: rect("B1", "C2"), Src: src}, 0, api.OK)
			comes(t, b.Calc, "A1 5, C3 1")
			asks(t, b.Calc, "C3")
		}
	}
}

// P14.1, P14.2: no more than MaxCells cells have a source; what makes them no more may be done, and what is wrong otherwise is told first.
func TestFull(t *testing.T) {
	b := full(t)
	for _, x := range []struct {
		e     api.Edit
		place int
		err   api.Errno
		cells int
	}{
		{set("B1", "1"), 0, api.ErrMany, 1000}, {set("B1", "=A1"), 0, api.ErrMany, 1000}, {set("B1", "'"), 0, api.ErrMany, 1000}, {set("AX1000", " "), 0, api.ErrMany, 1000},
		{set("B1", ""), 0, api.OK, 1000}, {empty("B1"), 0, api.OK, 1000}, {wipe("B1", "AX1000"), 0, api.OK, 1000},
		{set("A5", "2"), 0, api.OK, 1000}, {set("A5", "=A4"), 0, api.OK, 1000}, {set("A1000", "=SUM(A1:A999)"), 0, api.OK, 1000}, {set("B1", "=A5"), 0, api.ErrMany, 1000},
		{set("B1", "=1+"), 3, api.ErrParse, 1000}, {set("A5", "=1+"), 3, api.ErrParse, 1000}, {set("B1", many("x", 201)), 0, api.ErrLong, 1000}, {api.Edit{Kind: api.Set, Src: "1"}, 0, api.ErrGrid, 1000}, {api.Edit{}, 0, api.ErrArg, 1000},
		{empty("A7"), 0, api.OK, 999}, {set("B1", "=A1000"), 0, api.OK, 1000}, {set("A7", "1"), 0, api.ErrMany, 1000}, {set("B1", "2"), 0, api.OK, 1000},
		{set("B1", ""), 0, api.OK, 999}, {set("A7", "=A1"), 0, api.OK, 1000}, {set("B1", "=B1"), 0, api.ErrMany, 1000},
		{wipe("A999", "AX1000"), 0, api.OK, 998}, {set("AX1000", "=AW1000"), 0, api.OK, 999}, {set("AW1000", "=A5"), 0, api.OK, 1000}, {set("AX999", "1"), 0, api.ErrMany, 1000}, {set("AX1000", "x"), 0, api.OK, 1000},
		{wipe("A1", "AX1000"), 0, api.OK, 0}, {set("AX999", "1"), 0, api.OK, 1},
	} {
		b.does(t, x.e, x.place, x.err)
		if len(b.Cells()) != x.cells {
			t.Error(x.e, len(b.Cells()), x.cells)
		}
	}
}

// P14.1: formulas over cells and ranges, texts, truths, faults and empty cells; each edit tells anew what it changes.
func TestValues(t *testing.T) {
	b := twiceMade(t, "A2", "=A1", "A3", "=SUM(A1:A2)", "A4", "=A3&\"!\"", "A5", "=IF(A1,A2,A3)", "A6", "=IFERR(A1/B1,-1)", "A7", "=COUNTA(A1:C1)", "A8", "=ISEMPTY(A1)", "A9", "=INDEX(A1:C1,1,C1)", "A10", "=MATCH(A1,B1:C9)", "A11", "=ROWS(A1:C9)", "A12", "=LEN(A4)")
	for _, x := range []struct {
		e    api.Edit
		want string
	}{
		{set("A1", "5"), "A1 5, A2 5, A3 10, A4 10!, A5 5, A6 -1, A7 1, A8 FALSE, A9 #REF, A10 #NONE, A11 9, A12 3"},
		{set("A1", "TRUE"), "A1 TRUE, A2 TRUE, A3 2, A4 2!, A5 TRUE, A6 -1, A7 1, A8 FALSE, A9 #REF, A10 #NONE, A11 9, A12 2"},
		{set("A1", "'7"), "A1 7, A2 7, A3 14, A4 14!, A5 #TYPE, A6 -1, A7 1, A8 FALSE, A9 #REF, A10 #NONE, A11 9, A12 3"},
		{set("B1", "2"), "A1 7, B1 2, A2 7, A3 14, A4 14!, A5 #TYPE, A6 3, A7 2, A8 FALSE, A9 #REF, A10 #NONE, A11 9, A12 3"},
		{set("C1", "=B1"), "A1 7, B1 2, C1 2, A2 7, A3 14, A4 14!, A5 #TYPE, A6 3, A7 3, A8 FALSE, A9 2, A10 #NONE, A11 9, A12 3"},
		{set("B1", "=1/0"), "A1 7, B1 #DIV, C1 #DIV, A2 7, A3 14, A4 14!, A5 #TYPE, A6 -1, A7 3, A8 FALSE, A9 #DIV, A10 #NONE, A11 9, A12 3"},
		{empty("A1"), "B1 #DIV, C1 #DIV, A2 0, A3 0, A4 0!, A5 0, A6 -1, A7 2, A8 TRUE, A9 #DIV, A10 #NONE, A11 9, A12 2"},
		{wipe("A1", "C1"), "A2 0, A3 0, A4 0!, A5 0, A6 -1, A7 0, A8 TRUE, A9 #REF, A10 #NONE, A11 9, A12 2"},
		{set("A1", "=A5"), "A1 #LOOP, A2 #LOOP, A3 #LOOP, A4 #LOOP, A5 #LOOP, A6 -1, A7 1, A8 FALSE, A9 #REF, A10 #LOOP, A11 9, A12 #LOOP"},
		{set("A1", "=B1:C1"), "A1 #REF, A2 #REF, A3 #REF, A4 #REF, A5 #REF, A6 -1, A7 1, A8 FALSE, A9 #REF, A10 #REF, A11 9, A12 #REF"},
		{set("A1", "x"), "A1 x, A2 x, A3 #TYPE, A4 #TYPE, A5 #TYPE, A6 -1, A7 1, A8 FALSE, A9 #REF, A10 #NONE, A11 9, A12 #TYPE"},
	} {
		b.does(t, x.e, 0, api.OK)
		if got := values(b.Calc); got != x.want {
			t.Errorf("%v:\n%s, not\n%s", x.e, got, x.want)
		}
	}
}

// P14.1: what is done to a sheet that was told is not seen in the calc, nor the other way.
func TestSheet(t *testing.T) {
	for _, e := range []api.Edit{set("A1", "9"), set("B1", "=C1"), set("D1", "new"), set("C1", ""), empty("C1"), empty("B1"), wipe("A1", "A1"), wipe("A1", "AX1000")} {
		c := made(t, "A1 5; B1 =A1+1; C1 x")
		if err := c.Load(cell("B2"), "=B1", integer(7)); err != api.OK {
			t.Fatal(err)
		}
		s, before := c.Sheet(), shown(c)
		list := s.List()
		if !slices.Equal(list, []api.Edit{set("A1", "5"), set("B1", "=A1+1"), set("C1", "x"), set("B2", "=B1")}) || s.Value(cell("B2")) != integer(6) {
			t.Error(list, s.Value(cell("B2")))
		}
		s.Do(e)
		if shown(c) != before || !slices.Equal(c.Sheet().List(), list) || slices.Equal(s.List(), list) {
			t.Error(e, "seen in the calc")
		}
		s = c.Sheet()
		done(t, c, e)
		if !slices.Equal(s.List(), list) || shown(c) == before {
			t.Error(e, "seen in the sheet")
		}
		s = c.Sheet()
		c.Load(cell("A9"), "1", integer(1))
		if s.Source(cell("A9")) != "" || c.Sheet().Source(cell("A9")) != "1" || c.Sheet() == c.Sheet() {
			t.Error(e, "loaded, and seen in the sheet")
		}
	}
}

// P14.1, P14.2: what is written into lists that are told, their spare room too, changes neither the calc nor another answer.
func TestLists(t *testing.T) {
	c := made(t, "A1 5; B1 =A1+SUM(A2:B9); C1 x; A2 =B2+C2+D2; D2 =C1; E2 =B1; F2 =B1")
	done(t, c, set("D2", "=C1&1"))
	before := shown(c)
	cells, edges, asked := c.Cells(), c.Edges(cell("A2")), c.Asked()
	for _, l := range [][]api.Addr{c.Cells(), c.Asked()} {
		l = l[:cap(l)]
		for i := range l {
			l[i] = at(9, 9)
		}
	}
	for l, i := c.Edges(cell("A2")), 0; i < cap(l); i++ {
		l[:cap(l)][i] = rect("Z1", "Z9")
	}
	if shown(c) != before || !slices.Equal(cells, c.Cells()) || !slices.Equal(edges, c.Edges(cell("A2"))) || !slices.Equal(asked, c.Asked()) || names(asked) != "B1 A2 D2 E2 F2" {
		t.Error(shown(c), cells, edges, asked)
	}
	done(t, c, set("D2", "=C1&2"))
	if !slices.Equal(asked, c.Asked()) || !slices.Equal(cells, c.Cells()) {
		t.Error(c.Asked(), c.Cells())
	}
	done(t, c, set("D2", "=C1&2"))
	if names(asked) != "B1 A2 D2 E2 F2" || len(c.Asked()) != 0 {
		t.Error(asked, c.Asked())
	}
}

// shared tells whether two of the texts share a byte of memory.
func shared(texts ...string) bool {
	for i, a := range texts {
		for _, b := range texts[:i] {
			from, from2 := uintptr(unsafe.Pointer(unsafe.StringData(a))), uintptr(unsafe.Pointer(unsafe.StringData(b)))
			if from < from2+uintptr(len(b)) && from2 < from+uintptr(len(a)) {
				return true
			}
		}
	}
	return false
}

// P14.1: texts that are told are new memory too.
func TestNewMemory(t *testing.T) {
	c := made(t, "A1 text; B1 'x; C1 TRUE; D1 '12; E1 =A1; F1 =E1&\"x\"; G1 =A1&B1; H1 '; I1 -7; J1 =\"text\"; K1 =IF(TRUE,A1); L1 =INDEX(A1:E1,1,5)")
	c.Load(cell("A2"), "=A1", value.Of("given"))
	c.Load(cell("B2"), "taken", value.Of("taken"))
	var l []string
	for range 2 {
		for _, a := range c.Cells() {
			l = append(l, c.Value(a).S, c.Source(a))
		}
		s := c.Sheet()
		for _, e := range s.Values() {
			l = append(l, e.V.S, s.Source(e.A))
		}
	}
	if shared(l...) {
		t.Errorf("%q", l)
	}
}

// P14.1, P14.3: texts that are handed in are not kept: nothing hangs on what their memory holds afterwards.
func TestNothingKept(t *testing.T) {
	for _, src := range []string{"text", "'12", "-12", "TRUE", "=A1+SUM(A1:B2)", "=\"a\"\"b\"&\"c\"", "=-LEN(\"abc\")^2<>7", "=MIN(1,2)"} {
		for _, load := range []bool{false, true} {
			c, memory, given := New(), []byte(src), []byte("given")
			text := unsafe.String(&memory[0], len(memory))
			if !load {
				done(t, c, set("C3", text))
			} else if err := c.Load(cell("C3"), text, api.Value{Kind: api.Text, S: unsafe.String(&given[0], len(given))}); err != api.OK {
				t.Fatal(err)
			}
			before, edits := shown(c), fmt.Sprint(c.Sheet().List())
			if string(memory) != src || string(given) != "given" {
				t.Errorf("%q is %q now, %q", src, memory, given)
			}
			for _, l := range [][]byte{memory, given} {
				for i := range l {
					l[i] = 'Z'
				}
			}
			if shown(c) != before || fmt.Sprint(c.Sheet().List()) != edits {
				t.Errorf("%q: %s", src, shown(c))
			}
		}
	}
}
