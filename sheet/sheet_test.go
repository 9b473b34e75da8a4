package sheet

import (
	"fmt"
	"math"
	"math/rand"
	"slices"
	"strings"
	"testing"
	"unsafe"

	"pannier/addr"
	"pannier/api"
	"pannier/source"
	"pannier/value"
)

func at(row, col int) api.Addr { return api.Addr{Row: row, Col: col} }

// cell is the cell of that name.
func cell(name string) api.Addr {
	a, ok := addr.Parse(name)
	if !ok {
		panic(name)
	}
	return a
}

func rect(from, to string) api.Rect { return api.Rect{From: cell(from), To: cell(to)} }

func set(name, src string) api.Edit { return api.Edit{Kind: api.Set, A: cell(name), Src: src} }

func empty(name string) api.Edit { return api.Edit{Kind: api.Clear, A: cell(name)} }

func wipe(from, to string) api.Edit { return api.Edit{Kind: api.Wipe, R: rect(from, to)} }

func many(s string, n int) string { return strings.Repeat(s, n) }

// shown is all that a sheet tells of its cells, as a text.
func shown(s *Sheet) string {
	var b strings.Builder
	values, list := s.Values(), s.List()
	for i, a := range s.Cells() {
		fmt.Fprintf(&b, "%v %q %v %v %v %v\n", a, s.Source(a), s.Value(a), s.Edges(a), values[i], list[i])
	}
	return b.String()
}

// sources is the sheet's sources as a text: "A1 5, B1 =A1".
func sources(s *Sheet) string {
	var l []string
	for _, a := range s.Cells() {
		l = append(l, addr.Name(a)+" "+s.Source(a))
	}
	return strings.Join(l, ", ")
}

// does holds May and Do of e against what they must answer: neither changes anything, but a Do that answers OK.
func does(t *testing.T, s *Sheet, e api.Edit, place int, err api.Errno) {
	t.Helper()
	before := shown(s)
	if at, got := s.May(e); at != place || got != err {
		t.Errorf("may %v: %d %v, not %d %v", e, at, got, place, err)
	}
	if shown(s) != before {
		t.Errorf("may %v changed the sheet", e)
	}
	if at, got := s.Do(e); at != place || got != err {
		t.Errorf("do %v: %d %v, not %d %v", e, at, got, place, err)
	}
	if err != api.OK && shown(s) != before {
		t.Errorf("do %v: %v, and the sheet is another", e, err)
	}
}

// made is a sheet of names and sources, one behind the other.
func made(t *testing.T, l ...string) *Sheet {
	t.Helper()
	s := New()
	for i := 0; i < len(l); i += 2 {
		if place, err := s.Do(set(l[i], l[i+1])); place != 0 || err != api.OK {
			t.Fatalf("%s %q: %d %v", l[i], l[i+1], place, err)
		}
	}
	return s
}

// has holds a sheet's sources against a text as that of sources.
func has(t *testing.T, s *Sheet, want string) {
	t.Helper()
	if got := sources(s); got != want {
		t.Errorf("%s, not %s", got, want)
	}
}

// full is a sheet in whose column A each cell has a source.
func full(t *testing.T) *Sheet {
	t.Helper()
	s := New()
	for row := range api.MaxCells {
		if place, err := s.Do(api.Edit{Kind: api.Set, A: at(row+1, 1), Src: "1"}); place != 0 || err != api.OK {
			t.Fatal(row, place, err)
		}
	}
	return s
}

// outside are places that are no cells.
func outside() []api.Addr {
	return []api.Addr{
		{}, at(0, 1), at(1, 0), at(-1, 1), at(1, -1), at(1001, 1), at(1, 51), at(1001, 51), at(1000, 51), at(1001, 50),
		at(math.MaxInt, 1), at(1, math.MaxInt), at(math.MinInt, 1), at(1, math.MinInt), at(math.MaxInt, math.MaxInt), at(math.MinInt, math.MinInt),
	}
}

// crooked are rectangles that are not good.
func crooked() []api.Rect {
	l := []api.Rect{{}, rect("B2", "A1"), rect("B1", "A1"), rect("A2", "A1"), rect("B1", "A2"), rect("A2", "B1"), rect("AX1000", "A1")}
	for _, a := range outside() {
		l = append(l, api.Rect{From: a, To: cell("AX1000")}, api.Rect{From: cell("A1"), To: a}, api.Rect{From: a, To: a})
	}
	return l
}

// P12.1, P12.2: what a nil sheet answers, be the edit right or wrong.
func TestNil(t *testing.T) {
	var s *Sheet
	for _, e := range []api.Edit{{}, set("A1", "1"), set("A1", ""), set("A1", "=1+"), {Kind: api.Set}, empty("A1"), {Kind: api.Clear}, wipe("A1", "B2"), {Kind: api.Wipe}, {Kind: 4}, {Kind: -1}} {
		if place, err := s.May(e); place != 0 || err != api.ErrArg {
			t.Error("may", e, place, err)
		}
		if place, err := s.Do(e); place != 0 || err != api.ErrArg {
			t.Error("do", e, place, err)
		}
	}
	for _, a := range append(outside(), cell("A1"), cell("AX1000")) {
		if s.Source(a) != "" || s.Value(a) != (api.Value{}) || len(s.Edges(a)) != 0 {
			t.Error(a)
		}
	}
	if len(s.Cells()) != 0 || len(s.Values()) != 0 || len(s.List()) != 0 || s.Copy() != nil {
		t.Error(s.Cells(), s.Values(), s.List(), s.Copy())
	}
}

// P12.1, P12.2: a new sheet is empty, and each is another one.
func TestNew(t *testing.T) {
	s, other := New(), New()
	for _, a := range append(outside(), cell("A1"), cell("AX1000")) {
		if s.Source(a) != "" || s.Value(a) != (api.Value{}) || len(s.Edges(a)) != 0 {
			t.Error(a)
		}
	}
	if len(s.Cells()) != 0 || len(s.Values()) != 0 || len(s.List()) != 0 || s.Copy() == nil || s.Copy() == s || len(s.Copy().Cells()) != 0 {
		t.Error(s.Cells(), s.Values(), s.List())
	}
	does(t, s, set("A1", "1"), 0, api.OK)
	has(t, s, "A1 1")
	has(t, other, "")
	has(t, New(), "")
}

// P12.1: Set, with sources of each sort: each is kept as source.Clean has it.
func TestSet(t *testing.T) {
	for src, want := range map[string]string{
		"0": "0", "5": "5", "-7": "-7", "9223372036854775807": "9223372036854775807", "-9223372036854775808": "-9223372036854775808", "9223372036854775808": "9223372036854775808",
		"TRUE": "TRUE", "FALSE": "FALSE", "true": "true", "text": "text", " ": " ", " 5": " 5", "05": "05", "'": "'", "'12": "'12", "'TRUE": "'TRUE", "'x": "x", "'=A1": "'=A1", "''": "''", "' x": " x", "\x00\n\xff": "\x00\n\xff",
		"=1": "=1", "= 1": "=1", "=001": "=1", "= a1 + 1": "=A1+1", "=sum( b2 : a1 , \"a b\" )": `=SUM(A1:B2,"a b")`, "=(((1)))": "=1", "=(1+2)*3": "=(1+2)*3", "=(1*2)+3": "=1*2+3", "=true": "=TRUE", "= - a1": "=-A1",
		many("x", 200): many("x", 200), "'" + many("x", 200): many("x", 200), "'" + many("1", 200): many("1", 200), "=" + many(" ", 298) + "1": "=1",
	} {
		s := New()
		does(t, s, set("B7", src), 0, api.OK)
		has(t, s, "B7 "+want)
		if clean, _, _ := source.Clean(src); s.Source(cell("B7")) != clean {
			t.Errorf("%q: %q, not %q", src, s.Source(cell("B7")), clean)
		}
	}
}

// P12.1: a cell that is set again, cleared, and set to nothing.
func TestSetAgain(t *testing.T) {
	s := New()
	for _, x := range []struct {
		e    api.Edit
		want string
	}{
		{set("B2", "1"), "B2 1"}, {set("B2", "1"), "B2 1"}, {set("B2", "x"), "B2 x"}, {set("B2", "=a1"), "B2 =A1"}, {set("A1", "7"), "A1 7, B2 =A1"}, {set("B2", "TRUE"), "A1 7, B2 TRUE"},
		{set("B2", ""), "A1 7"}, {set("B2", ""), "A1 7"}, {set("B2", "'"), "A1 7, B2 '"}, {empty("B2"), "A1 7"}, {empty("B2"), "A1 7"}, {set("B2", "=1/0"), "A1 7, B2 =1/0"},
		{empty("A1"), "B2 =1/0"}, {set("A1", "=B2"), "A1 =B2, B2 =1/0"}, {set("A1", ""), "B2 =1/0"}, {empty("C3"), "B2 =1/0"}, {empty("B2"), ""}, {empty("B2"), ""}, {set("B2", ""), ""},
	} {
		does(t, s, x.e, 0, api.OK)
		has(t, s, x.want)
	}
}

// P12.1: Wipe takes what is in the rectangle, its edges among it, and nothing else.
func TestWipe(t *testing.T) {
	for row := 1; row <= 4; row++ {
		for col := 1; col <= 4; col++ {
			for bottom := row; bottom <= 4; bottom++ {
				for right := col; right <= 4; right++ {
					s, r := New(), api.Rect{From: at(row, col), To: at(bottom, right)}
					var want []string
					for i := range 16 {
						a := at(i/4+1, i%4+1)
						does(t, s, api.Edit{Kind: api.Set, A: a, Src: "=B2"}, 0, api.OK)
						if a.Row < row || a.Row > bottom || a.Col < col || a.Col > right {
							want = append(want, addr.Name(a)+" =B2")
						}
					}
					does(t, s, api.Edit{Kind: api.Wipe, R: r}, 0, api.OK)
					has(t, s, strings.Join(want, ", "))
					does(t, s, api.Edit{Kind: api.Wipe, R: r}, 0, api.OK) // where nothing is
					has(t, s, strings.Join(want, ", "))
				}
			}
		}
	}
}

// P12.1: the first and the last cell of the grid, and all of it.
func TestEndsOfTheGrid(t *testing.T) {
	s := New()
	does(t, s, set("AX1000", "=A1"), 0, api.OK)
	does(t, s, set("A1", "5"), 0, api.OK)
	does(t, s, set("AX1", "=A1000"), 0, api.OK)
	does(t, s, set("A1000", "=SUM(A1:AX999)"), 0, api.OK)
	has(t, s, "A1 5, AX1 =A1000, A1000 =SUM(A1:AX999), AX1000 =A1")
	does(t, s, wipe("A2", "AX999"), 0, api.OK)
	does(t, s, wipe("B1", "AW1000"), 0, api.OK)
	has(t, s, "A1 5, AX1 =A1000, A1000 =SUM(A1:AX999), AX1000 =A1")
	does(t, s, empty("A1"), 0, api.OK)
	does(t, s, empty("AX1000"), 0, api.OK)
	has(t, s, "AX1 =A1000, A1000 =SUM(A1:AX999)")
	does(t, s, wipe("A1000", "A1000"), 0, api.OK)
	has(t, s, "AX1 =A1000")
	does(t, s, set("B500", "x"), 0, api.OK)
	does(t, s, wipe("A1", "AX1000"), 0, api.OK)
	has(t, s, "")
}

// P12.1: there are three kinds of edits.
func TestWrongKinds(t *testing.T) {
	s := made(t, "A1", "5", "B1", "=A1")
	for _, kind := range []int{0, 4, 5, -1, -2, -3, 256, 257, 258, 259, 1 << 32, 1<<32 + 1, 1<<32 + 2, 1<<32 + 3, math.MaxInt, math.MinInt, math.MinInt + 1} {
		for _, e := range []api.Edit{{}, {A: cell("A1"), Src: "7", R: rect("A1", "B2")}, {A: cell("A1"), Src: "=1+"}, {Src: "=1+"}} {
			e.Kind = kind
			does(t, s, e, 0, api.ErrArg)
		}
	}
	has(t, s, "A1 5, B1 =A1")
}

// P12.1: a place that is no cell's is told ahead of what is wrong with Src, and of a full sheet.
func TestOutside(t *testing.T) {
	small, all := made(t, "A1", "5", "B1", "=A1"), full(t)
	for _, a := range outside() {
		for _, src := range []string{"1", "", "=A1", "=1+", "=$", many("x", 301), "=" + many("(", 60)} {
			does(t, small, api.Edit{Kind: api.Set, A: a, Src: src, R: rect("A1", "A1")}, 0, api.ErrGrid)
		}
		does(t, small, api.Edit{Kind: api.Clear, A: a, Src: "1", R: rect("A1", "A1")}, 0, api.ErrGrid)
		if place, err := all.Do(api.Edit{Kind: api.Set, A: a, Src: "1"}); place != 0 || err != api.ErrGrid {
			t.Error(a, place, err)
		}
	}
	for _, r := range crooked() {
		does(t, small, api.Edit{Kind: api.Wipe, R: r, A: cell("A1"), Src: "1"}, 0, api.ErrGrid)
	}
	has(t, small, "A1 5, B1 =A1")
}

// wrongSources are sources that there are not, each with the error and its place.
func wrongSources() []struct {
	src   string
	place int
	err   api.Errno
} {
	return []struct {
		src   string
		place int
		err   api.Errno
	}{
		{"=", 1, api.ErrParse}, {"=1+", 3, api.ErrParse}, {"= 1 +", 5, api.ErrParse}, {"=A0", 1, api.ErrParse}, {"=1 2", 3, api.ErrParse}, {"=SUM(A1", 7, api.ErrParse}, {"=AY1", 1, api.ErrParse}, {"=A1001+1", 1, api.ErrParse},
		{"=$", 1, api.ErrToken}, {"=1+$", 3, api.ErrToken}, {`="x`, 1, api.ErrToken}, {"=9223372036854775808", 1, api.ErrToken}, {"=#LOOP", 1, api.ErrToken},
		{`=1+"` + many("x", 201) + `"`, 3, api.ErrParse}, {"=" + many("(", 60), 1, api.ErrDeep}, {"=" + many("-", 20) + "1", 1, api.ErrDeep},
		{many("x", 201), 0, api.ErrLong}, {"'" + many("x", 201), 0, api.ErrLong}, {many("1", 201), 0, api.ErrLong}, {many("x", 301), 0, api.ErrLong}, {"=" + many(" ", 299) + "1", 0, api.ErrLong}, {"=" + many("1", 300), 0, api.ErrLong}, {many("x", 100000), 0, api.ErrLong},
	}
}

// P12.1: a wrong Src is told as source.Clean tells it, in an empty cell and in one that has a source, in a full sheet too.
func TestWrongSources(t *testing.T) {
	small, all := made(t, "A1", "5", "B1", "=A1"), full(t)
	for _, x := range wrongSources() {
		if _, place, err := source.Clean(x.src); place != x.place || err != x.err {
			t.Errorf("%q: %d %v", x.src, place, err)
		}
		for _, name := range []string{"A1", "B1", "C1", "AX1000"} {
			does(t, small, set(name, x.src), x.place, x.err)
			if place, err := all.May(set(name, x.src)); place != x.place || err != x.err {
				t.Errorf("may %s %q: %d %v", name, x.src, place, err)
			}
			if place, err := all.Do(set(name, x.src)); place != x.place || err != x.err {
				t.Errorf("do %s %q: %d %v", name, x.src, place, err)
			}
		}
	}
	has(t, small, "A1 5, B1 =A1")
	if len(all.Cells()) != api.MaxCells || all.Source(cell("A1")) != "1" {
		t.Error(len(all.Cells()), all.Source(cell("A1")))
	}
}

// P12.1: fields that a Kind does not name are not looked at.
func TestUnnamedFields(t *testing.T) {
	for _, r := range append(crooked(), rect("A1", "AX1000")) {
		s := made(t, "A1", "5", "B1", "=A1", "C1", "x")
		does(t, s, api.Edit{Kind: api.Set, A: cell("B1"), Src: "7", R: r}, 0, api.OK)
		has(t, s, "A1 5, B1 7, C1 x")
		does(t, s, api.Edit{Kind: api.Set, A: cell("B1"), R: r}, 0, api.OK)
		has(t, s, "A1 5, C1 x")
		for _, x := range append(wrongSources(), wrongSources()[0]) {
			does(t, s, api.Edit{Kind: api.Clear, A: cell("B9"), R: r, Src: x.src}, 0, api.OK)
			has(t, s, "A1 5, C1 x")
		}
		does(t, s, api.Edit{Kind: api.Clear, A: cell("A1"), R: r, Src: "1"}, 0, api.OK)
		has(t, s, "C1 x")
	}
	for _, a := range append(outside(), cell("A1"), cell("D4")) {
		for _, src := range []string{"", "1", "=1+", many("x", 301)} {
			s := made(t, "A1", "5", "B2", "=A1", "C3", "x")
			does(t, s, api.Edit{Kind: api.Wipe, A: a, R: rect("B1", "C2"), Src: src}, 0, api.OK)
			has(t, s, "A1 5, C3 x")
		}
	}
}

// P12.1: no more than MaxCells cells have a source; what makes them no more may be done, and what is wrong otherwise is told first.
func TestFull(t *testing.T) {
	s := full(t)
	count := api.MaxCells
	for i, x := range []struct {
		e     api.Edit
		place int
		err   api.Errno
		more  int
	}{
		{set("B1", "1"), 0, api.ErrMany, 0}, {set("B1", "=A1"), 0, api.ErrMany, 0}, {set("B1", "'"), 0, api.ErrMany, 0}, {set("AX1000", " "), 0, api.ErrMany, 0},
		{set("B1", ""), 0, api.OK, 0}, {empty("B1"), 0, api.OK, 0}, {wipe("B1", "AX1000"), 0, api.OK, 0},
		{set("A5", "2"), 0, api.OK, 0}, {set("A5", "=A4"), 0, api.OK, 0}, {set("A1000", "x"), 0, api.OK, 0},
		{set("B1", "=1+"), 3, api.ErrParse, 0}, {set("A5", "=1+"), 3, api.ErrParse, 0}, {set("B1", many("x", 201)), 0, api.ErrLong, 0}, {api.Edit{Kind: api.Set, Src: "1"}, 0, api.ErrGrid, 0}, {api.Edit{}, 0, api.ErrArg, 0},
		{empty("A7"), 0, api.OK, -1}, {set("B1", "1"), 0, api.OK, 1}, {set("A7", "1"), 0, api.ErrMany, 0}, {set("B1", "2"), 0, api.OK, 0},
		{set("B1", ""), 0, api.OK, -1}, {set("A7", "1"), 0, api.OK, 1}, {set("B1", "1"), 0, api.ErrMany, 0},
		{wipe("A999", "AX1000"), 0, api.OK, -2}, {set("AX1000", "1"), 0, api.OK, 1}, {set("AW1000", "1"), 0, api.OK, 1}, {set("AX999", "1"), 0, api.ErrMany, 0}, {set("AX1000", "x"), 0, api.OK, 0},
	} {
		before := s.List()
		may, bad := s.May(x.e)
		if !slices.Equal(before, s.List()) {
			t.Error(i, "may changed it")
		}
		place, err := s.Do(x.e)
		if may != x.place || bad != x.err || place != x.place || err != x.err {
			t.Error(i, may, bad, place, err)
		}
		if x.err != api.OK && !slices.Equal(before, s.List()) {
			t.Error(i, "refused, and another")
		}
		if count += x.more; len(s.Cells()) != count {
			t.Error(i, len(s.Cells()), count)
		}
	}
	does(t, s.Copy(), wipe("A1", "AX1000"), 0, api.OK)
	if _, err := s.Copy().Do(set("AX999", "1")); err != api.ErrMany {
		t.Error(err)
	}
}

// P12.2: Cells, Values and List go row by row, in each from left to right, in whatever order the edits came.
func TestOrder(t *testing.T) {
	names := []string{"A1", "B1", "Z1", "AA1", "AX1", "A2", "B2", "AX2", "A9", "C9", "A10", "B10", "A99", "A100", "Z100", "AA100", "A999", "A1000", "AX1000"}
	r := rand.New(rand.NewSource(1))
	for range 200 {
		s := New()
		for _, i := range r.Perm(len(names)) {
			does(t, s, set(names[i], "="+addr.Name(at(1, 2+i))+"&"+fmt.Sprint(i)), 0, api.OK)
		}
		cells, values, list := s.Cells(), s.Values(), s.List()
		if len(cells) != len(names) || len(values) != len(names) || len(list) != len(names) {
			t.Fatal(cells, values, list)
		}
		for i, name := range names {
			src := "=" + addr.Name(at(1, 2+i)) + "&" + fmt.Sprint(i)
			if a := cell(name); cells[i] != a || values[i].A != a || values[i].V != s.Value(a) || list[i] != set(name, src) || s.Source(a) != src {
				t.Error(name, cells[i], values[i], list[i])
			}
		}
	}
}

// P12.2: Edges are what a formula refers to; constants, and cells without a source, have none.
func TestEdges(t *testing.T) {
	s := made(t, "A1", "=B2", "A2", "=b3+sum(a9:b2)+B3-A1:A1", "A3", "=1", "A4", "5", "A5", "TRUE", "A6", "A1", "A7", "'=A1", "A8", "=A8", "A9", "=IF(TRUE,1,C1)", "A10", "=ROWS(A1:AX1000)", "AX1000", `="A1"&AX1000`)
	for name, want := range map[string][]api.Rect{
		"A1": {rect("B2", "B2")}, "A2": {rect("A1", "A1"), rect("A2", "B9"), rect("B3", "B3")}, "A3": nil, "A4": nil, "A5": nil, "A6": nil, "A7": nil, "A8": {rect("A8", "A8")}, "A9": {rect("C1", "C1")},
		"A10": {rect("A1", "AX1000")}, "AX1000": {rect("AX1000", "AX1000")}, "B1": nil, "B2": nil, "A1000": nil,
	} {
		if got := s.Edges(cell(name)); !slices.Equal(got, want) {
			t.Error(name, got)
		}
	}
	for _, a := range outside() {
		if len(s.Edges(a)) != 0 || s.Source(a) != "" || s.Value(a) != (api.Value{}) {
			t.Error(a)
		}
	}
	does(t, s, set("A1", "=C1"), 0, api.OK)
	if got := s.Edges(cell("A1")); !slices.Equal(got, []api.Rect{rect("C1", "C1")}) {
		t.Error(got)
	}
	for _, e := range []api.Edit{set("A1", "7"), set("A1", ""), empty("A8"), wipe("A2", "A2")} {
		does(t, s, e, 0, api.OK)
		if a := cell("A1"); len(s.Edges(a)) != 0 {
			t.Error(e, s.Edges(a))
		}
	}
	if len(s.Edges(cell("A8"))) != 0 || len(s.Edges(cell("A2"))) != 0 {
		t.Error("edges of cells that have no source any more")
	}
}

// P12.2: what is done to a copy is not seen in the sheet, nor the other way.
func TestCopy(t *testing.T) {
	edits := []api.Edit{set("A1", "9"), set("B1", "=C1"), set("D1", "new"), set("C1", ""), empty("C1"), empty("B1"), wipe("A1", "A1"), wipe("A1", "AX1000")}
	for _, e := range edits {
		s := made(t, "A1", "5", "B1", "=A1+1", "C1", "x")
		before := shown(s)
		c := s.Copy()
		if c == s || shown(c) != before {
			t.Fatal(shown(c))
		}
		does(t, c, e, 0, api.OK)
		if changed := shown(c); shown(s) != before || changed == before {
			t.Error(e, "seen in the sheet")
		}
		c = s.Copy()
		does(t, s, e, 0, api.OK)
		if changed := shown(s); shown(c) != before || changed == before {
			t.Error(e, "seen in the copy")
		}
		if again := c.Copy(); shown(again) != before {
			t.Error(e, "a copy of a copy")
		}
	}
}

// P12.3: the edits that List tells make the same sheet, in whatever order they are done.
func TestList(t *testing.T) {
	s := made(t, "A1", "= b1 + 2", "B2", "7", "C3", "'x", "D4", "'12", "A9", "'", "B1", "=b1", "C1", "TRUE", "AX1000", "=sum(a1:c3)", "D5", " x ", "D6", "=\" \"\"\"")
	want := []api.Edit{set("A1", "=B1+2"), set("B1", "=B1"), set("C1", "TRUE"), set("B2", "7"), set("C3", "x"), set("D4", "'12"), set("D5", " x "), set("D6", `=" """`), set("A9", "'"), set("AX1000", "=SUM(A1:C3)")}
	if got := s.List(); !slices.Equal(got, want) {
		t.Error(got)
	}
	r := rand.New(rand.NewSource(2))
	for range 50 {
		other, l := New(), s.List()
		r.Shuffle(len(l), func(i, k int) { l[i], l[k] = l[k], l[i] })
		for _, e := range l {
			does(t, other, e, 0, api.OK)
		}
		if shown(other) != shown(s) {
			t.Error(l)
		}
	}
}

// P12.2: what is written into lists that are told, their spare room too, changes neither the sheet nor another answer.
func TestLists(t *testing.T) {
	s := made(t, "A1", "5", "B1", "=A1+SUM(A2:B9)", "C1", "x", "A2", "=B2+C2+D2")
	before := shown(s)
	cells, values, edges, list := s.Cells(), s.Values(), s.Edges(cell("A2")), s.List()
	for _, a := range [][]api.Addr{s.Cells(), s.Copy().Cells()} {
		for i := range a[:cap(a)] {
			a[:cap(a)][i] = at(9, 9)
		}
	}
	for _, v := range [][]api.Entry{s.Values(), s.Copy().Values()} {
		for i := range v[:cap(v)] {
			v[:cap(v)][i] = api.Entry{A: at(9, 9), V: value.Of("y")}
		}
	}
	for _, r := range [][]api.Rect{s.Edges(cell("A2")), s.Copy().Edges(cell("A2"))} {
		for i := range r[:cap(r)] {
			r[:cap(r)][i] = rect("Z1", "Z9")
		}
	}
	for _, e := range [][]api.Edit{s.List(), s.Copy().List()} {
		for i := range e[:cap(e)] {
			e[:cap(e)][i] = set("Z9", "y")
		}
	}
	if shown(s) != before || !slices.Equal(cells, s.Cells()) || !slices.Equal(values, s.Values()) || !slices.Equal(edges, s.Edges(cell("A2"))) || !slices.Equal(list, s.List()) {
		t.Error(shown(s), cells, values, edges, list)
	}
}

// shared tells whether two of the texts share a byte of memory.
func shared(texts ...string) bool {
	for i, a := range texts {
		for _, b := range texts[:i] {
			from, from2 := uintptr(unsafe.Pointer(unsafe.StringData(a))), uintptr(unsafe.Pointer(unsafe.StringData(b)))
			if from < from2+uintptr(len(b)) && from2 < from+uintptr(len(a)) {
				return true
			}
		}
	}
	return false
}

// P12.2: texts that are told are new memory too.
func TestNewMemory(t *testing.T) {
	s := made(t, "A1", "text", "B1", "'x", "C1", "TRUE", "D1", "'12", "E1", "=A1", "F1", "=E1&\"x\"", "G1", "=A1&B1", "H1", "'", "I1", "-7", "J1", "=\"text\"", "K1", "=IF(TRUE,A1)", "L1", "=INDEX(A1:E1,1,5)")
	var l []string
	for range 2 {
		for _, one := range []*Sheet{s, s.Copy()} {
			for _, e := range one.Values() {
				l = append(l, e.V.S, one.Value(e.A).S, one.Source(e.A))
			}
			for _, e := range one.List() {
				l = append(l, e.Src)
			}
		}
	}
	if shared(l...) {
		t.Errorf("%q", l)
	}
}

// P12.1: the text that is handed in is not kept: nothing hangs on what its memory holds afterwards.
func TestNothingKept(t *testing.T) {
	for _, src := range []string{"text", "'12", "'x", "-12", "TRUE", "=A1+SUM(A1:B2)", "=\"a\"\"b\"&\"c\"", "=-len(\"abc\")^2<>7", "= min( 1 , 2 )"} {
		s, memory := New(), []byte(src)
		does(t, s, set("C3", unsafe.String(&memory[0], len(memory))), 0, api.OK)
		before := shown(s)
		if string(memory) != src {
			t.Errorf("%q is %q now", src, memory)
		}
		for i := range memory {
			memory[i] = 'Z'
		}
		if shown(s) != before {
			t.Errorf("%q: %s", src, shown(s))
		}
	}
}
