package value

import (
	"math"
	"slices"
	"strings"
	"testing"
	"unsafe"

	"pannier/api"
)

func whole(n int64) api.Value { return api.Value{Kind: api.Int, N: n} }

func truth(n int64) api.Value { return api.Value{Kind: api.Bool, N: n} }

func text(s string) api.Value { return api.Value{Kind: api.Text, S: s} }

func fault(n int64) api.Value { return api.Value{Kind: api.Fault, N: n} }

// none is what a second answer must be, where the first one could be had.
var none = api.Value{}

// full and over are as long as a Text may be, and one byte longer.
var full, over = strings.Repeat("m", 200), strings.Repeat("m", 201)

// sorted are good values that are no faults, each ahead of the next one in the order.
func sorted() []api.Value {
	l := []api.Value{{}}
	for _, n := range []int64{math.MinInt64, math.MinInt64 + 1, -1 << 32, -10, -9, -1, 0, 1, 2, 9, 10, 1 << 32, math.MaxInt64 - 1, math.MaxInt64} {
		l = append(l, whole(n))
	}
	for _, s := range []string{"", "\x00", "\x00\x00", " ", "-1", "10", "9", "FALSE", "TRUE", "Z", "a", "aB", "aa", "ab", "b", full, full[:199] + "n", "z", "\x80", "\u00e9", "\xff", "\xff\xff"} {
		l = append(l, text(s))
	}
	return append(l, truth(0), truth(1))
}

func faults() (l []api.Value) {
	for n := int64(1); n <= 8; n++ {
		l = append(l, fault(n))
	}
	return l
}

// crooked are values that are not good.
func crooked() []api.Value {
	l := []api.Value{text(over), text(strings.Repeat("m", 1<<20)), text(strings.Repeat("\u00e9", 101)), {Kind: api.Text, N: 1, S: "12"}, {Kind: api.Text, N: -1}, {Kind: api.Text, N: 1 << 32}}
	for _, n := range []int64{1, -1, 2, 1 << 32, math.MinInt64, math.MaxInt64} {
		l = append(l, api.Value{N: n})
	}
	for _, n := range []int64{2, -1, 3, 256, 1 << 32, 1<<32 + 1, math.MinInt64, math.MaxInt64} {
		l = append(l, truth(n))
	}
	for _, n := range []int64{0, -1, 9, 10, 257, 1 << 32, 1<<32 + 1, -1<<32 + 1, math.MinInt64, math.MinInt64 + 1, math.MaxInt64} {
		l = append(l, fault(n))
	}
	for _, s := range []string{"a", "\x00", "TRUE", "1", over} {
		l = append(l, api.Value{S: s}, api.Value{Kind: api.Bool, S: s}, api.Value{Kind: api.Bool, N: 1, S: s}, api.Value{Kind: api.Int, S: s}, api.Value{Kind: api.Int, N: 1, S: s}, api.Value{Kind: api.Fault, N: 1, S: s}, api.Value{Kind: api.Fault, N: 8, S: s})
	}
	for _, kind := range []int{-1, 5, 6, 256, 258, 1 << 32, 1<<32 + 2, -1<<32 + 3, math.MinInt, math.MinInt + 2, math.MaxInt} {
		l = append(l, api.Value{Kind: kind}, api.Value{Kind: kind, N: 1}, api.Value{Kind: kind, S: "a"})
	}
	return l
}

// P3.1: a value of each kind is good; one with a field that its kind has no room for, and one of no kind, is not.
func TestGood(t *testing.T) {
	for _, v := range slices.Concat(sorted(), faults(), []api.Value{text(strings.Repeat("\u00e9", 100)), text(strings.Repeat("\xff", 200))}) {
		if !Good(v) {
			t.Errorf("%#v is not good", v)
		}
	}
	for _, v := range crooked() {
		if Good(v) {
			t.Errorf("%#.40v is good", v)
		}
	}
}

// P3.1: two values are the same just if all their fields are alike, be they good or not.
func TestSame(t *testing.T) {
	l := slices.Concat(sorted(), faults(), crooked())
	for i, a := range l {
		for k, b := range l {
			b.S = strings.Clone(b.S)
			if Same(a, b) != (i == k) {
				t.Errorf("Same(%#.40v, %#.40v): %v", a, b, i != k)
			}
		}
	}
}

// P3.1, P3.4: Empty goes ahead of Int, Int of Text, Text of Bool; numbers go by numbers, texts byte by byte, false ahead of true.
func TestCompare(t *testing.T) {
	l := sorted()
	for i, a := range l {
		for k, b := range l {
			want := 0
			if i < k {
				want = -1
			} else if i > k {
				want = 1
			}
			if n, ok := Compare(a, b); n != want || !ok {
				t.Errorf("Compare(%#.40v, %#.40v): %d %v, not %d", a, b, n, ok, want)
			}
		}
	}
}

// P3.1: faults and what is not good have no place in the order, wherever they stand.
func TestCompareOfOthers(t *testing.T) {
	others := append(faults(), crooked()...)
	for _, a := range others {
		for _, b := range slices.Concat(sorted(), faults(), []api.Value{a, {Kind: 5}, text(over)}) {
			if n, ok := Compare(a, b); n != 0 || ok {
				t.Errorf("Compare(%#.40v, %#.40v): %d %v", a, b, n, ok)
			}
			if n, ok := Compare(b, a); n != 0 || ok {
				t.Errorf("Compare(%#.40v, %#.40v): %d %v", b, a, n, ok)
			}
		}
	}
}

// P3.1: each fault by its code; Empty, if there is none of that code.
func TestFail(t *testing.T) {
	for code, want := range map[int]api.Value{api.Div: fault(1), api.Over: fault(2), api.Type: fault(3), api.Ref: fault(4), api.Args: fault(5), api.Loop: fault(6), api.Long: fault(7), api.None: fault(8)} {
		if v := Fail(code); v != want {
			t.Errorf("Fail(%d): %v, not %v", code, v, want)
		}
	}
	for _, code := range []int{0, -1, 9, 10, 257, 1 << 32, 1<<32 + 1, -1<<32 + 1, math.MinInt, math.MinInt + 1, math.MaxInt} {
		if v := Fail(code); v != none {
			t.Errorf("Fail(%d): %v", code, v)
		}
	}
}

// P3.1, P3.4: a text of any bytes, up to the longest; Str has it back.
func TestOf(t *testing.T) {
	for n := range 201 {
		for _, s := range []string{full[:n], strings.Repeat("\xff", n), strings.Repeat("\x00", n), strings.Repeat("\u00e9", n/2)} {
			if v := Of(s); v != text(s) {
				t.Errorf("Of(%q): %#v", s, v)
			}
			if back, bad := Str(Of(s)); back != s || bad != none {
				t.Errorf("Str(Of(%q)): %q %v", s, back, bad)
			}
		}
	}
	for _, s := range []string{"TRUE", "12", "#DIV", "=A1", "?"} {
		if v := Of(s); v != text(s) {
			t.Errorf("Of(%q): %#v", s, v)
		}
	}
	for _, s := range []string{over, over + "m", strings.Repeat("\u00e9", 101), strings.Repeat("\x00", 256), strings.Repeat("m", 1<<20)} {
		if v := Of(s); v != fault(api.Long) {
			t.Errorf("Of(%.40q, %d bytes): %#.40v", s, len(s), v)
		}
	}
}

// P3.2: what each kind is shown as.
func TestShow(t *testing.T) {
	for v, want := range map[api.Value]string{
		{}: "", truth(1): "TRUE", truth(0): "FALSE",
		whole(0): "0", whole(-5): "-5", whole(1): "1", whole(math.MinInt64): "-9223372036854775808", whole(math.MaxInt64): "9223372036854775807",
		text(""): "", text("a b"): "a b", text("\x00\xff"): "\x00\xff", text("?"): "?", text("012"): "012", text(full): full,
		fault(1): "#DIV", fault(2): "#OVER", fault(3): "#TYPE", fault(4): "#REF", fault(5): "#ARG", fault(6): "#LOOP", fault(7): "#LONG", fault(8): "#NONE",
	} {
		if s := Show(v); s != want {
			t.Errorf("Show(%#v): %q, not %q", v, s, want)
		}
	}
	for _, v := range crooked() {
		if s := Show(v); s != "?" {
			t.Errorf("Show(%#.40v): %.40q", v, s)
		}
	}
}

// P3.3: what can be a number.
func TestNum(t *testing.T) {
	for v, want := range map[api.Value]int64{
		{}: 0, truth(0): 0, truth(1): 1,
		whole(0): 0, whole(-5): -5, whole(2): 2, whole(math.MinInt64): math.MinInt64, whole(math.MaxInt64): math.MaxInt64,
		text("0"): 0, text("12"): 12, text("-7"): -7, text("9223372036854775807"): math.MaxInt64, text("-9223372036854775808"): math.MinInt64,
	} {
		if n, bad := Num(v); n != want || bad != none {
			t.Errorf("Num(%#v): %d %v, not %d", v, n, bad, want)
		}
	}
}

// P3.3: a text that is no number's Dec is none.
func TestNumOfOtherTexts(t *testing.T) {
	for _, s := range []string{"", "x", "-", "--1", "+1", "-0", "00", "012", "-01", " 1", "1 ", "1\n", "1\x00", "1.0", "1e3", "0x5", "1_0", "1,000", "TRUE", "FALSE", "=1", "#DIV", "9223372036854775808", "-9223372036854775809", "\u0665", "\xff", strings.Repeat("0", 200), strings.Repeat("9", 200), full} {
		if n, bad := Num(text(s)); n != 0 || bad != fault(api.Type) {
			t.Errorf("Num of %q: %d %v", s, n, bad)
		}
	}
}

// P3.3: what can be a truth.
func TestFlag(t *testing.T) {
	for v, want := range map[api.Value]bool{
		{}: false, truth(0): false, truth(1): true,
		whole(0): false, whole(1): true, whole(-1): true, whole(2): true, whole(1 << 32): true, whole(math.MinInt64): true, whole(math.MaxInt64): true,
		text("TRUE"): true, text("FALSE"): false,
	} {
		if is, bad := Flag(v); is != want || bad != none {
			t.Errorf("Flag(%#v): %v %v, not %v", v, is, bad, want)
		}
	}
}

// P3.3: a text that is neither TRUE nor FALSE is no truth, a number's and one in small letters included.
func TestFlagOfOtherTexts(t *testing.T) {
	for _, s := range []string{"", "true", "false", "True", "False", "tRUE", "TRUe", "FALSe", "T", "F", "TRU", "FALS", "TRUE ", " TRUE", "TRUE\n", "TRUE\x00", "FALSE ", " FALSE", "FALSE\x00", "TRUEE", "TRUEFALSE", "TRUETRUE", "=TRUE", "YES", "0", "1", "-1", "12", "#DIV", "\xff", full} {
		if is, bad := Flag(text(s)); is || bad != fault(api.Type) {
			t.Errorf("Flag of %q: %v %v", s, is, bad)
		}
	}
}

// P3.3: what is good and no fault is the text that it is shown as.
func TestStr(t *testing.T) {
	for v, want := range map[api.Value]string{{}: "", truth(1): "TRUE", truth(0): "FALSE", whole(-5): "-5", whole(0): "0", whole(math.MinInt64): "-9223372036854775808", text(""): "", text("a\x00\xff"): "a\x00\xff", text("true"): "true", text("#DIV"): "#DIV", text("?"): "?", text(full): full} {
		if s, bad := Str(v); s != want || bad != none {
			t.Errorf("Str(%#v): %q %v, not %q", v, s, bad, want)
		}
	}
	for _, v := range sorted() {
		if s, bad := Str(v); s != Show(v) || bad != none {
			t.Errorf("Str(%#v): %q %v, not %q", v, s, bad, Show(v))
		}
	}
}

// refused holds Num, Flag and Str of v against the fault that each must answer.
func refused(t *testing.T, v, want api.Value) {
	t.Helper()
	if n, bad := Num(v); n != 0 || bad != want {
		t.Errorf("Num(%#.40v): %d %v, not %v", v, n, bad, want)
	}
	if is, bad := Flag(v); is || bad != want {
		t.Errorf("Flag(%#.40v): %v %v, not %v", v, is, bad, want)
	}
	if s, bad := Str(v); s != "" || bad != want {
		t.Errorf("Str(%#.40v): %.40q %v, not %v", v, s, bad, want)
	}
}

// P3.3: a fault is nothing else, but itself; what is not good is the fault Type, be it of whatever kind.
func TestFaultsAndWhatIsNotGood(t *testing.T) {
	for _, v := range faults() {
		refused(t, v, v)
	}
	for _, v := range crooked() {
		refused(t, v, fault(api.Type))
	}
}

// Rule 2: a text that is told is new memory.
func TestNewMemory(t *testing.T) {
	s := strings.Clone(full)
	told, _ := Str(text(s))
	for name, answer := range map[string]string{"Of": Of(s).S, "Show": Show(text(s)), "Str": told} {
		if answer != s || unsafe.StringData(answer) == unsafe.StringData(s) {
			t.Errorf("%s shares its text with what was handed in", name)
		}
	}
}
