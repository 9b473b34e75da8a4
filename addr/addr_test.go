package addr

import (
	"math"
	"slices"
	"strconv"
	"strings"
	"testing"

	"pannier/api"
)

// columns are the columns' names, from left to right.
const columns = "A B C D E F G H I J K L M N O P Q R S T U V W X Y Z " +
	"AA AB AC AD AE AF AG AH AI AJ AK AL AM AN AO AP AQ AR AS AT AU AV AW AX"

func at(row, col int) api.Addr { return api.Addr{Row: row, Col: col} }

func rect(top, left, bottom, right int) api.Rect {
	return api.Rect{From: at(top, left), To: at(bottom, right)}
}

// cells are those of the whole grid as they go, each beside its name.
func cells() (l []api.Addr, names []string) {
	for row := 1; row <= 1000; row++ {
		for i, column := range strings.Fields(columns) {
			l = append(l, at(row, i+1))
			names = append(names, column+strconv.Itoa(row))
		}
	}
	return l, names
}

// outside are places that are no cells: numbers next to the grid, and any int.
func outside() []api.Addr {
	var l []api.Addr
	wrong := []int{0, -1, -5, 1 << 31, 1 << 32, 1<<32 + 1, -1<<32 + 1, math.MaxInt, math.MaxInt - 1, math.MinInt, math.MinInt + 1}
	for _, row := range append(wrong, 1001) {
		for _, col := range []int{1, 2, 26, 27, 50, row} {
			l = append(l, at(row, col))
		}
	}
	for _, col := range append(wrong, 51, 52) {
		for _, row := range []int{1, 2, 999, 1000} {
			l = append(l, at(row, col))
		}
	}
	return append(l, at(1001, 51), api.Addr{})
}

// spread are good rectangles that lie about a few rows and columns in all ways, and some at the grid's edges.
func spread() []api.Rect {
	l := []api.Rect{rect(1, 1, 1000, 50), rect(1000, 50, 1000, 50), rect(1, 50, 1000, 50), rect(1000, 1, 1000, 50), rect(4, 26, 9, 27)}
	for top := 1; top <= 4; top++ {
		for left := 1; left <= 4; left++ {
			for bottom := top; bottom <= 4; bottom++ {
				for right := left; right <= 4; right++ {
					l = append(l, rect(top, left, bottom, right))
				}
			}
		}
	}
	return l
}

// crooked are rectangles that are not good: their ends the wrong way round, or no cells.
func crooked() []api.Rect {
	l := []api.Rect{{}, rect(2, 1, 1, 1), rect(1, 2, 1, 1), rect(2, 2, 1, 1), rect(1, 3, 3, 1), rect(3, 1, 1, 3), rect(1000, 50, 1, 1), rect(0, 0, 1001, 51), rect(math.MinInt, math.MinInt, math.MaxInt, math.MaxInt)}
	for _, a := range outside() {
		l = append(l, api.Rect{From: a, To: at(1000, 50)}, api.Rect{From: at(1, 1), To: a}, api.Rect{From: a, To: a})
	}
	return l
}

// inside tells by the letter of the chapter whether a is in the good rectangle r.
func inside(r api.Rect, a api.Addr) bool {
	return slices.Contains(span(r.From.Row, r.To.Row), a.Row) && slices.Contains(span(r.From.Col, r.To.Col), a.Col)
}

func span(from, to int) (l []int) {
	for n := from; n <= to; n++ {
		l = append(l, n)
	}
	return l
}

// P2.1, P2.3: Good, Name and Parse of each cell of the grid.
func TestCells(t *testing.T) {
	l, names := cells()
	for i, a := range l {
		if !Good(a) || Name(a) != names[i] {
			t.Errorf("%v: %v %q, not %q", a, Good(a), Name(a), names[i])
		}
		if got, ok := Parse(names[i]); got != a || !ok {
			t.Errorf("Parse(%q): %v %v, not %v", names[i], got, ok, a)
		}
	}
}

// P2.1: the names at the edges, spelt out.
func TestNames(t *testing.T) {
	for name, a := range map[string]api.Addr{"A1": at(1, 1), "A1000": at(1000, 1), "I9": at(9, 9), "J10": at(10, 10), "Z1": at(1, 26), "Z1000": at(1000, 26), "AA1": at(1, 27), "AA3": at(3, 27), "AX1": at(1, 50), "AX1000": at(1000, 50)} {
		if s := Name(a); s != name {
			t.Errorf("Name(%v): %q, not %q", a, s, name)
		}
		if got, ok := Parse(name); got != a || !ok {
			t.Errorf("Parse(%q): %v %v, not %v", name, got, ok, a)
		}
	}
}

// P2.1: what lies outside of the grid is no cell, and has no name.
func TestOutsideOfTheGrid(t *testing.T) {
	for _, a := range outside() {
		if Good(a) || Name(a) != "" {
			t.Errorf("%v: %v %q", a, Good(a), Name(a))
		}
	}
}

// P2.1: false of each text that is no cell's name.
func TestParseOfOtherTexts(t *testing.T) {
	for _, s := range []string{
		"", "A", "Z", "AX", "AAA", "1", "10", "0", "A0", "A00", "A01", "A001", "A01000", "AA03", "A-1", "A-0", "A+1", "A1.0", "A1e2", "A1_0", "A0x1",
		"a1", "aA1", "Aa1", "ax1", "AY1", "AZ1", "BA1", "BX1", "ZZ1", "AAA1", "AAX1", "XFD1",
		"A1001", "A1010", "A1100", "A2000", "A9999", "A10000", "A10001", "AX1001",
		"A4294967297", "A18446744073709551617", "A9223372036854775807", "A9223372036854775808", "A-9223372036854775808", "A-4294967295", "A99999999999999999999",
		"1A", "A1A", "A1B2", "A1:B2", "$A$1", "A$1", "$A1", "R1C1", " A1", "A1 ", "A 1", "\tA1", "A1\n", "A1\x00", "\x00A1", "A\x001", "@1", "[1", "A@1", "A[1", "-A1",
		"\u00c41", "\u03911", "\uff211", "\U0001f6001", "A\u0661", "A\uff11", "A\u00b9", "\xff1", "A\xff1", "A1\xff", "\xc3", "A\xc3", "A\ufffd1", "\u01411",
	} {
		if a, ok := Parse(s); a != (api.Addr{}) || ok {
			t.Errorf("Parse(%q): %v %v", s, a, ok)
		}
	}
}

// P2.1, and that Parse ends soon: texts that are far too long; letters enough to go round an int.
func TestParseOfLongTexts(t *testing.T) {
	for _, s := range []string{"A", "Z", "1", "0", "A1", "\xff", "\u00c4"} {
		long := strings.Repeat(s, 1<<20)
		for _, s := range []string{long, "A" + long, long + "1", "A0" + long, "AX1" + long} {
			if a, ok := Parse(s); a != (api.Addr{}) || ok {
				t.Errorf("Parse(%.20q): %v %v", s, a, ok)
			}
		}
	}
	for n := 3; n <= 80; n++ {
		for letter := 'A'; letter <= 'Z'; letter++ {
			s := strings.Repeat(string(letter), n) + "1"
			if a, ok := Parse(s); a != (api.Addr{}) || ok {
				t.Errorf("Parse(%q): %v %v", s, a, ok)
			}
		}
	}
}

// P2.1, P2.3: of all short texts of bytes that names are near to, just the cells' names are parsed.
func TestParseOfShortTexts(t *testing.T) {
	l, names := cells()
	want := map[string]api.Addr{}
	for i, a := range l {
		want[names[i]] = a
	}
	const letters = "AXYZa019 @[\x00\xff"
	texts := []string{""}
	for from := 0; len(texts[from]) < 5; from++ {
		for i := range len(letters) {
			texts = append(texts, texts[from]+letters[i:i+1])
		}
	}
	for _, s := range texts {
		a, ok := Parse(s)
		if is, has := want[s]; a != is || ok != has {
			t.Errorf("Parse(%q): %v %v, not %v %v", s, a, ok, is, has)
		}
	}
}

// P2.1: cells go row by row, in each from left to right; none goes ahead of itself.
func TestBefore(t *testing.T) {
	var few []api.Addr
	for _, row := range []int{1, 2, 3, 9, 10, 999, 1000} {
		for _, col := range []int{1, 2, 9, 26, 27, 49, 50} {
			few = append(few, at(row, col))
		}
	}
	for i, a := range few {
		for k, b := range few {
			if Before(a, b) != (i < k) {
				t.Errorf("Before(%v, %v): %v", a, b, i >= k)
			}
		}
	}
	l, _ := cells()
	for i := range l[1:] {
		if !Before(l[i], l[i+1]) || Before(l[i+1], l[i]) {
			t.Errorf("%v and %v", l[i], l[i+1])
		}
	}
}

// P2.1: of any ints the same order holds; no difference of them goes round.
func TestBeforeOutsideOfTheGrid(t *testing.T) {
	var l []api.Addr
	numbers := []int{math.MinInt, math.MinInt + 1, -1, 0, 1, 50, 1001, math.MaxInt - 1, math.MaxInt}
	for _, row := range numbers {
		for _, col := range numbers {
			l = append(l, at(row, col))
		}
	}
	for i, a := range l {
		for k, b := range l {
			if Before(a, b) != (i < k) {
				t.Errorf("Before(%v, %v): %v", a, b, i >= k)
			}
		}
	}
}

// P2.2: a good rectangle is fine, and counts its cells.
func TestFineAndCount(t *testing.T) {
	for _, r := range spread() {
		n := len(span(r.From.Row, r.To.Row)) * len(span(r.From.Col, r.To.Col))
		if !Fine(r) || Count(r) != n {
			t.Errorf("%v: %v, %d, not %d", r, Fine(r), Count(r), n)
		}
	}
	for r, n := range map[api.Rect]int{rect(1, 1, 1, 1): 1, rect(1000, 50, 1000, 50): 1, rect(2, 3, 4, 5): 9, rect(1, 1, 2, 50): 100, rect(1, 1, 1000, 1): 1000, rect(1, 1, 1000, 50): 50000} {
		if !Fine(r) || Count(r) != n {
			t.Errorf("%v: %v, %d, not %d", r, Fine(r), Count(r), n)
		}
	}
}

// P2.2: what is not good is not fine, has no cells, and meets nothing.
func TestRectanglesThatAreNotGood(t *testing.T) {
	all := rect(1, 1, 1000, 50)
	for _, r := range crooked() {
		if Fine(r) || Count(r) != 0 {
			t.Errorf("%v: %v, %d", r, Fine(r), Count(r))
		}
		if Meet(r, all) || Meet(all, r) || Meet(r, r) {
			t.Errorf("%v meets", r)
		}
		for _, a := range []api.Addr{at(1, 1), at(1, 2), at(2, 2), at(1000, 50), r.From, r.To} {
			if Has(r, a) {
				t.Errorf("%v has %v", r, a)
			}
		}
	}
}

// P2.2: the least good rectangle that has both.
func TestMade(t *testing.T) {
	few := []api.Addr{at(1, 1), at(1, 2), at(2, 1), at(2, 2), at(3, 27), at(9, 26), at(1, 50), at(1000, 1), at(1000, 50)}
	for _, a := range few {
		for _, b := range few {
			rows, cols := []int{a.Row, b.Row}, []int{a.Col, b.Col}
			slices.Sort(rows)
			slices.Sort(cols)
			if r, ok := Made(a, b); r != rect(rows[0], cols[0], rows[1], cols[1]) || !ok {
				t.Errorf("Made(%v, %v): %v %v", a, b, r, ok)
			}
		}
		for _, b := range outside() {
			if r, ok := Made(a, b); r != (api.Rect{}) || ok {
				t.Errorf("Made(%v, %v): %v %v", a, b, r, ok)
			}
			if r, ok := Made(b, a); r != (api.Rect{}) || ok {
				t.Errorf("Made(%v, %v): %v %v", b, a, r, ok)
			}
		}
	}
	for _, a := range outside() {
		if r, ok := Made(a, a); r != (api.Rect{}) || ok {
			t.Errorf("Made(%v, %v): %v %v", a, a, r, ok)
		}
	}
}

// P2.2: what is in a rectangle, on its borders and next to them; what is no cell is in none.
func TestHas(t *testing.T) {
	var near []api.Addr
	for row := -1; row <= 6; row++ {
		for col := -1; col <= 6; col++ {
			near = append(near, at(row, col))
		}
	}
	near = append(near, at(999, 50), at(1000, 49), at(1000, 50), at(3, 26), at(4, 26), at(9, 27), at(9, 28), at(10, 27))
	for _, r := range spread() {
		for _, a := range near {
			if Has(r, a) != inside(r, a) {
				t.Errorf("Has(%v, %v): %v", r, a, !inside(r, a))
			}
		}
		for _, a := range outside() {
			if Has(r, a) {
				t.Errorf("Has(%v, %v)", r, a)
			}
		}
	}
}

// P2.2, P2.3: two rectangles meet just if some cell is in both.
func TestMeet(t *testing.T) {
	l, _ := cells()
	// Each corner of a spread rectangle is among these: if two meet, then in one of them.
	few := slices.DeleteFunc(l, func(a api.Addr) bool {
		return a.Row > 4 && a.Row < 999 && a.Row != 9 || a.Col > 4 && a.Col < 49 && a.Col != 26 && a.Col != 27
	})
	for _, a := range spread() {
		in := slices.DeleteFunc(slices.Clone(few), func(c api.Addr) bool { return !inside(a, c) })
		for _, b := range spread() {
			want := slices.ContainsFunc(in, func(c api.Addr) bool { return inside(b, c) })
			if Meet(a, b) != want {
				t.Errorf("Meet(%v, %v): %v", a, b, !want)
			}
		}
	}
}
