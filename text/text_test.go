package text

import (
	"math"
	"slices"
	"strings"
	"testing"
	"unsafe"

	"pannier/api"
)

func text(s string) api.Value { return api.Value{Kind: api.Text, S: s} }

func number(n int64) api.Value { return api.Value{Kind: api.Int, N: n} }

func fault(code int64) api.Value { return api.Value{Kind: api.Fault, N: code} }

// full is as long as a text may be, and no byte of it is there twice.
var full = bytesFrom(0, 200)

// over are texts that are too long, the first one by one byte, the second one by its bytes, not by its characters.
var over = []string{full + "m", strings.Repeat("\u00e9", 101), strings.Repeat("m", 201), strings.Repeat("\x00", 256), strings.Repeat("ab", 1<<15), strings.Repeat("m", 1<<20)}

// below are numbers below 0.
var below = []int64{-1, -2, -5, -200, -201, -256, -1 << 31, -1 << 32, -1<<32 + 1, math.MinInt64 + 1, math.MinInt64}

// great are numbers greater than any length, some of which would be small ones in 32 bits.
var great = []int64{201, 256, 1 << 31, 1<<31 + 1, 1 << 32, 1<<32 + 1, 1 << 62, 1<<62 + 1, 1<<63 - 201, math.MaxInt64 - 1, math.MaxInt64}

// bytesFrom is n bytes, each the one behind the one ahead of it.
func bytesFrom(first byte, n int) string {
	l := make([]byte, n)
	for i := range l {
		l[i] = first + byte(i)
	}
	return string(l)
}

// samples are texts of all sorts that are not too long.
func samples() []string {
	return []string{
		"", "a", "Z", "7", "-", " ", "\x00", "\x7f", "\x80", "\xff", "ab", "aa", "\x00\x00", "a\x00", "\x00a", "abcde", "abcabc", "aabaaab", "-12", "TRUE", "=A1+1", "#DIV", "a b\n", "'x", `"`,
		"\u00e9", "\u00e9\u20ac", "a\u00e9b", "\u65e5\u672c\u8a9e", "\U0001f600x\U0001f600", "e\u0301", "\xc3", "\xa9\xc3", "\xff\xfe\x00", "\u00c4\u00e4\u00df",
		full[:199], full, bytesFrom(56, 200), strings.Repeat("a", 199), strings.Repeat("a", 200), strings.Repeat("ab", 100), strings.Repeat("\u00e9", 100), strings.Repeat("\xff", 200), strings.Repeat("\x00", 200),
	}
}

// around are the numbers from least on that lie within a length, and about it, and great ones.
func around(least int64, length int) (l []int64) {
	for n := least; n <= int64(length)+3; n++ {
		l = append(l, n)
	}
	return append(l, great...)
}

// is holds an answer against the one that must be.
func is(t *testing.T, got, want api.Value, call string, args ...any) {
	t.Helper()
	if got != want {
		t.Errorf("%s of %.60q: %.80v, not %.80v", call, args, got, want)
	}
}

// picked are the bytes of s at the places that are such.
func picked(s string, such func(place int64) bool) api.Value {
	var l []byte
	for i := range len(s) {
		if such(int64(i) + 1) {
			l = append(l, s[i])
		}
	}
	return text(string(l))
}

// P9.1: the first n bytes, byte by byte.
func TestLeft(t *testing.T) {
	for _, s := range samples() {
		for _, n := range around(0, len(s)) {
			is(t, Left(s, n), picked(s, func(place int64) bool { return place <= n }), "Left", s, n)
		}
	}
	for _, x := range []struct {
		s    string
		n    int64
		want string
	}{
		{"abcde", 2, "ab"}, {"abcde", 0, ""}, {"abcde", 1, "a"}, {"abcde", 4, "abcd"}, {"abcde", 5, "abcde"}, {"abcde", 6, "abcde"}, {"abcde", math.MaxInt64, "abcde"}, {"", 0, ""}, {"", 1, ""}, {"", math.MaxInt64, ""}, {"a", 1, "a"}, {"a", 0, ""},
		{"\u00e9", 1, "\xc3"}, {"\u00e9\u20ac", 3, "\u00e9\xe2"}, {"\x00\x01", 1, "\x00"}, {"\xff\xfe", 1, "\xff"}, {full, 199, full[:199]}, {full, 200, full}, {full, 201, full},
	} {
		is(t, Left(x.s, x.n), text(x.want), "Left", x.s, x.n)
	}
}

// P9.1: the last n bytes, byte by byte.
func TestRight(t *testing.T) {
	for _, s := range samples() {
		for _, n := range around(0, len(s)) {
			is(t, Right(s, n), picked(s, func(place int64) bool { return int64(len(s))-place < n }), "Right", s, n)
		}
	}
	for _, x := range []struct {
		s    string
		n    int64
		want string
	}{
		{"abcde", 2, "de"}, {"abcde", 0, ""}, {"abcde", 1, "e"}, {"abcde", 4, "bcde"}, {"abcde", 5, "abcde"}, {"abcde", 6, "abcde"}, {"abcde", math.MaxInt64, "abcde"}, {"", 0, ""}, {"", 1, ""}, {"", math.MaxInt64, ""}, {"a", 1, "a"}, {"a", 0, ""},
		{"\u00e9", 1, "\xa9"}, {"\u00e9\u20ac", 4, "\xa9\u20ac"}, {"\x00\x01", 1, "\x01"}, {"\xff\xfe", 1, "\xfe"}, {full, 199, full[1:]}, {full, 200, full}, {full, 201, full},
	} {
		is(t, Right(x.s, x.n), text(x.want), "Right", x.s, x.n)
	}
}

// P9.1: n bytes from the at-th on, byte by byte.
func TestMid(t *testing.T) {
	for _, s := range samples() {
		for _, at := range around(1, len(s)) {
			for _, n := range around(0, len(s)) {
				is(t, Mid(s, at, n), picked(s, func(place int64) bool { return place >= at && place-at < n }), "Mid", s, at, n)
			}
		}
	}
	for _, x := range []struct {
		s     string
		at, n int64
		want  string
	}{
		{"abcde", 2, 3, "bcd"}, {"abcde", 1, 5, "abcde"}, {"abcde", 1, 0, ""}, {"abcde", 1, 6, "abcde"}, {"abcde", 5, 1, "e"}, {"abcde", 5, 2, "e"}, {"abcde", 5, 0, ""}, {"abcde", 6, 0, ""}, {"abcde", 6, 1, ""}, {"abcde", 7, 1, ""},
		{"abcde", 2, math.MaxInt64, "bcde"}, {"abcde", math.MaxInt64, 2, ""}, {"abcde", math.MaxInt64, math.MaxInt64, ""}, {"abcde", math.MaxInt64, 0, ""}, {"abcde", 1, math.MaxInt64, "abcde"}, {"abcde", 6, math.MaxInt64, ""},
		{"", 1, 0, ""}, {"", 1, 1, ""}, {"", 2, 1, ""}, {"", math.MaxInt64, math.MaxInt64, ""}, {"a", 1, 1, "a"}, {"a", 2, 1, ""},
		{"\u00e9\u20ac", 2, 2, "\xa9\xe2"}, {"a\x00b", 2, 1, "\x00"}, {full, 200, 1, full[199:]}, {full, 1, 200, full}, {full, 201, 200, ""}, {full, 2, 200, full[1:]},
	} {
		is(t, Mid(x.s, x.at, x.n), text(x.want), "Mid", x.s, x.at, x.n)
	}
}

// first is what Find must answer: places are tried one by one.
func first(what, s string, at int64) api.Value {
	for place := at; place <= int64(len(s))+1; place++ {
		if strings.HasPrefix(s[place-1:], what) {
			return number(place)
		}
	}
	return fault(api.None)
}

// short are all texts of up to most of these bytes.
func short(bytes string, most int) []string {
	l := []string{""}
	for from := 0; most > 0; most-- {
		to := len(l)
		for _, s := range l[from:to] {
			for i := range len(bytes) {
				l = append(l, s+bytes[i:i+1])
			}
		}
		from = to
	}
	return l
}

// P9.1: the place of the first one, in all short texts, from each place on.
func TestFind(t *testing.T) {
	for _, what := range short("a\x00", 4) {
		for _, s := range short("a\x00", 7) {
			for _, at := range around(1, len(s)) {
				is(t, Find(what, s, at), first(what, s, at), "Find", what, s, at)
			}
		}
	}
	for _, what := range samples() {
		for _, s := range samples() {
			for _, at := range around(1, len(s)) {
				is(t, Find(what, s, at), first(what, s, at), "Find", what, s, at)
			}
		}
	}
}

// P9.1: what is found at at, ahead of it alone, at the end, more than once, overlapping itself; what is there in no place.
func TestFindByHand(t *testing.T) {
	for _, x := range []struct {
		what, s  string
		at, want int64
	}{
		{"c", "abcabc", 1, 3}, {"c", "abcabc", 3, 3}, {"c", "abcabc", 4, 6}, {"c", "abcabc", 6, 6}, {"abc", "abcabc", 1, 1}, {"abc", "abcabc", 2, 4}, {"abc", "abcabc", 4, 4}, {"abcabc", "abcabc", 1, 1}, {"a", "a", 1, 1},
		{"aa", "aaaa", 1, 1}, {"aa", "aaaa", 2, 2}, {"aa", "aaaa", 3, 3}, {"aba", "ababa", 2, 3}, {"aba", "ababa", 3, 3}, {"aab", "aaab", 1, 2},
		{"", "abc", 1, 1}, {"", "abc", 2, 2}, {"", "abc", 3, 3}, {"", "abc", 4, 4}, {"", "", 1, 1}, {"", full, 201, 201}, {"", full, 200, 200},
		{"\xa9", "\u00e9", 1, 2}, {"\xc3", "\u00e9", 1, 1}, {"\u20ac", "\u00e9\u20ac", 1, 3}, {"\x00", "a\x00", 1, 2}, {"\xff", "\xfe\xff", 1, 2}, {full, full, 1, 1}, {full[199:], full, 1, 200}, {full[199:], full, 200, 200}, {full[1:], full, 2, 2},
	} {
		is(t, Find(x.what, x.s, x.at), number(x.want), "Find", x.what, x.s, x.at)
	}
	for _, x := range []struct {
		what, s string
		at      int64
	}{
		{"c", "abc", 4}, {"a", "abc", 2}, {"abc", "abcab", 2}, {"abc", "abc", 2}, {"abc", "abc", math.MaxInt64}, {"x", "abc", 1}, {"A", "abc", 1}, {"ac", "abc", 1}, {"bcd", "abc", 1}, {"abcd", "abc", 1}, {"aa", "aaaa", 4}, {"a", "", 1}, {"a", "", 2}, {"ab", "b", 1},
		{"", "abc", 5}, {"", "abc", 6}, {"", "", 2}, {"", full, 202}, {"", "abc", 1<<32 + 1}, {"", "abc", math.MaxInt64 - 1}, {"", "abc", math.MaxInt64}, {"", "", math.MaxInt64}, {full, full[:199], 1}, {full, full[1:], 1}, {full, full, 2}, {"a", "abc", 1<<32 + 1}, {"a", "abc", math.MaxInt64},
		{"\u00e9", "e\u0301", 1}, {"\x00", "", 1}, {"\u00e9", "\xe9", 1},
	} {
		is(t, Find(x.what, x.s, x.at), fault(api.None), "Find", x.what, x.s, x.at)
	}
}

// P9.1: a number below the least one that may be is the fault Args, whatever else is there.
func TestWrongNumbers(t *testing.T) {
	for _, s := range samples() {
		for _, n := range below {
			is(t, Left(s, n), fault(api.Args), "Left", s, n)
			is(t, Right(s, n), fault(api.Args), "Right", s, n)
			is(t, Repeat(s, n), fault(api.Args), "Repeat", s, n)
			for _, at := range slices.Concat([]int64{0, 1, 2, int64(len(s)), int64(len(s)) + 1, int64(len(s)) + 2}, below, great) {
				is(t, Mid(s, at, n), fault(api.Args), "Mid", s, at, n)
			}
		}
		for _, at := range append([]int64{0}, below...) {
			for _, n := range slices.Concat([]int64{0, 1, 2, int64(len(s)), int64(len(s)) + 1}, great) {
				is(t, Mid(s, at, n), fault(api.Args), "Mid", s, at, n)
			}
			for _, what := range []string{"", "a", "\x00", s, full, "abcdef"} {
				is(t, Find(what, s, at), fault(api.Args), "Find", what, s, at)
			}
		}
	}
}

// P9.1: a text that is too long is the fault Long in each place that takes one, beside wrong numbers too.
func TestTooLong(t *testing.T) {
	numbers := slices.Concat([]int64{0, 1, 2, 200}, below, great)
	for _, s := range over {
		for i, got := range []api.Value{Upper(s), Lower(s), Len(s), Join(s, ""), Join("", s), Join(s, "a"), Join("a", s), Join(s, s), Join(s, full), Join(full, s)} {
			is(t, got, fault(api.Long), "call", i, s)
		}
		for _, n := range numbers {
			is(t, Left(s, n), fault(api.Long), "Left", s, n)
			is(t, Right(s, n), fault(api.Long), "Right", s, n)
			is(t, Repeat(s, n), fault(api.Long), "Repeat", s, n)
			for _, at := range numbers {
				is(t, Mid(s, at, n), fault(api.Long), "Mid", s, at, n)
			}
			for _, other := range []string{"", "m", "a", full, s} {
				is(t, Find(s, other, n), fault(api.Long), "Find", s, other, n)
				is(t, Find(other, s, n), fault(api.Long), "Find", other, s, n)
			}
		}
	}
}

// swapped is s with each byte that is in from as the one in to at its place.
func swapped(s, from, to string) api.Value {
	l := []byte(s)
	for i, c := range l {
		if k := strings.IndexByte(from, c); k >= 0 {
			l[i] = to[k]
		}
	}
	return text(string(l))
}

// P9.2: each byte, alone and among others; letters of more bytes than one stay as they are.
func TestUpperAndLower(t *testing.T) {
	const small, capital = "abcdefghijklmnopqrstuvwxyz", "ABCDEFGHIJKLMNOPQRSTUVWXYZ"
	is(t, Upper(small), text(capital), "Upper", small)
	is(t, Lower(capital), text(small), "Lower", capital)
	for c := range 256 {
		alone := string([]byte{byte(c)})
		for _, s := range []string{alone, alone + alone, "1" + alone + "-", "zZ" + alone + "aA", "\x80" + alone + "\x00", strings.Repeat(alone, 200)} {
			is(t, Upper(s), swapped(s, small, capital), "Upper", s)
			is(t, Lower(s), swapped(s, capital, small), "Lower", s)
		}
	}
	for _, s := range samples() {
		is(t, Upper(s), swapped(s, small, capital), "Upper", s)
		is(t, Lower(s), swapped(s, capital, small), "Lower", s)
	}
	for _, s := range []string{"", "\u00e4\u00c4\u00df\u00e9", "\u017f\u0131\u0130\u212a", "\uff41\uff21", "\u03b1\u0391\u0436\u0416", "12+-*/^&<>=()", "@[`{", "\xe4\xc4\xdf", strings.Repeat("\u00e9", 100), strings.Repeat("\xff", 200)} {
		is(t, Upper(s), text(s), "Upper", s)
		is(t, Lower(s), text(s), "Lower", s)
	}
	for _, x := range []struct{ s, up, low string }{
		{"aZ{`\xe4", "AZ{`\xe4", "az{`\xe4"}, {"Sum(a1:B2)", "SUM(A1:B2)", "sum(a1:b2)"}, {"x\u00e9Y", "X\u00e9Y", "x\u00e9y"}, {"a\x00B", "A\x00B", "a\x00b"},
		{full, full[:97] + capital + full[123:], full[:65] + small + full[91:]}, {strings.Repeat("aB", 100), strings.Repeat("AB", 100), strings.Repeat("ab", 100)},
	} {
		is(t, Upper(x.s), text(x.up), "Upper", x.s)
		is(t, Lower(x.s), text(x.low), "Lower", x.s)
	}
}

// P9.2: a text so often as may be, one behind the other, and once more: the fault Long.
func TestRepeat(t *testing.T) {
	for _, s := range samples() {
		want := ""
		for n := int64(0); n <= 202; n++ {
			if len(want) <= 200 {
				is(t, Repeat(s, n), text(want), "Repeat", s, n)
				want += s
			} else {
				is(t, Repeat(s, n), fault(api.Long), "Repeat", s, n)
			}
		}
		for _, n := range great {
			want := fault(api.Long)
			if s == "" {
				want = text("")
			}
			is(t, Repeat(s, n), want, "Repeat", s, n)
		}
	}
	for _, x := range []struct {
		s    string
		n    int64
		want string
	}{
		{"ab", 3, "ababab"}, {"ab", 0, ""}, {"ab", 1, "ab"}, {"x", 200, strings.Repeat("x", 200)}, {"ab", 100, strings.Repeat("ab", 100)}, {"abc", 66, strings.Repeat("abc", 66)}, {full, 1, full}, {full, 0, ""}, {full[:100], 2, full[:100] + full[:100]}, {"\u00e9", 100, strings.Repeat("\u00e9", 100)},
		{"", 0, ""}, {"", 1, ""}, {"", 201, ""}, {"", 1 << 32, ""}, {"", math.MaxInt64, ""}, {"\x00", 3, "\x00\x00\x00"}, {"\xff\x80", 2, "\xff\x80\xff\x80"},
	} {
		is(t, Repeat(x.s, x.n), text(x.want), "Repeat", x.s, x.n)
	}
	for _, x := range []struct {
		s string
		n int64
	}{
		{"x", 201}, {"ab", 101}, {"abc", 67}, {"\u00e9", 101}, {full, 2}, {full[:101], 2}, {"x", math.MaxInt64}, {"ab", math.MaxInt64}, {"ab", 1 << 62}, {"abcd", 1 << 62}, {"abcdefgh", 1 << 61}, {"abcd", 1<<62 + 1}, {"x", 1 << 32}, {"ab", 1<<32 + 1}, {full, math.MaxInt64},
	} {
		is(t, Repeat(x.s, x.n), fault(api.Long), "Repeat", x.s, x.n)
	}
}

// P9.2: both, the first one ahead; the fault Long, if that is longer than a text may be.
func TestJoin(t *testing.T) {
	for _, a := range samples() {
		for _, b := range samples() {
			want := text(a + b)
			if len(a)+len(b) > 200 {
				want = fault(api.Long)
			}
			is(t, Join(a, b), want, "Join", a, b)
		}
	}
	for n := range 201 {
		is(t, Join(full[:n], full[n:]), text(full), "Join", full[:n], full[n:])
		is(t, Join(full[:n], full[n:]+"x"), fault(api.Long), "Join", full[:n], full[n:]+"x")
		is(t, Join("x"+full[:n], full[n:]), fault(api.Long), "Join", "x"+full[:n], full[n:])
	}
	for _, x := range [][3]string{
		{"", "", ""}, {"a", "", "a"}, {"", "a", "a"}, {"a", "b", "ab"}, {"b", "a", "ba"}, {"\xc3", "\xa9", "\u00e9"}, {"\x00", "\x00", "\x00\x00"}, {"12", "3", "123"}, {full, "", full}, {"", full, full}, {full[:100], full[100:], full}, {strings.Repeat("\u00e9", 99), "\u00e9", strings.Repeat("\u00e9", 100)},
	} {
		is(t, Join(x[0], x[1]), text(x[2]), "Join", x[0], x[1])
	}
	for _, x := range [][2]string{{full, "x"}, {"x", full}, {full, "\x00"}, {full, full}, {full[:100], full[:101]}, {strings.Repeat("\u00e9", 100), "x"}} {
		is(t, Join(x[0], x[1]), fault(api.Long), "Join", x[0], x[1])
	}
}

// P9.2: how many bytes, not characters.
func TestLen(t *testing.T) {
	for n := range 201 {
		for _, c := range []byte{0, 'a', 0x7f, 0x80, 0xff} {
			s := strings.Repeat(string([]byte{c}), n)
			is(t, Len(s), number(int64(n)), "Len", s)
		}
	}
	for s, want := range map[string]int64{"": 0, "a": 1, "\x00": 1, "\xff": 1, "ab": 2, "a\x00b": 3, "\u00e9": 2, "e\u0301": 3, "\u20ac": 3, "\U0001f600": 4, "12": 2, " a ": 3, "a\n": 2, strings.Repeat("\u00e9", 100): 200, full: 200} {
		is(t, Len(s), number(want), "Len", s)
	}
}

// P9.3: what is left of a place and what is right of it, joined, are the text.
func TestLeftAndTheRest(t *testing.T) {
	for _, s := range samples() {
		for n := range int64(len(s)) + 1 {
			left := Left(s, n)
			for _, rest := range []api.Value{Right(s, int64(len(s))-n), Mid(s, n+1, math.MaxInt64), Mid(s, n+1, int64(len(s))-n)} {
				if left.Kind != api.Text || rest.Kind != api.Text {
					t.Fatalf("%q, %d: %v, %v", s, n, left, rest)
				}
				is(t, Join(left.S, rest.S), text(s), "Join of Left and the rest", s, n)
			}
			if n > 0 {
				is(t, Find(left.S, s, 1), number(1), "Find of Left", s, n)
			}
		}
		for _, n := range great {
			is(t, Join(Left(s, n).S, Mid(s, n, n).S), text(s), "Join of Left and the rest", s, n)
		}
	}
}

// Rule 2: a text that is told is new memory: no other answer's, nor a piece of what was handed in.
func TestNewMemory(t *testing.T) {
	for _, s := range []string{"A", "a", "\x00", "abc", "ABC", "123", full} {
		s = strings.Clone(s)
		from := uintptr(unsafe.Pointer(unsafe.StringData(s)))
		length := int64(len(s))
		for name, call := range map[string]func() api.Value{
			"Left": func() api.Value { return Left(s, length) }, "Left of one": func() api.Value { return Left(s, 1) }, "Right": func() api.Value { return Right(s, length) }, "Right of one": func() api.Value { return Right(s, 1) },
			"Mid": func() api.Value { return Mid(s, 1, length) }, "Mid of one": func() api.Value { return Mid(s, length, 1) }, "Upper": func() api.Value { return Upper(s) }, "Lower": func() api.Value { return Lower(s) },
			"Repeat": func() api.Value { return Repeat(s, 1) }, "Join": func() api.Value { return Join(s, "") }, "Join behind": func() api.Value { return Join("", s) },
		} {
			one, other := unsafe.StringData(call().S), unsafe.StringData(call().S)
			if one == other {
				t.Errorf("two answers of %s of %q share their text", name, s)
			}
			if place := uintptr(unsafe.Pointer(one)); place >= from && place < from+uintptr(length) {
				t.Errorf("%s of %q shares its text with what was handed in", name, s)
			}
		}
	}
}
