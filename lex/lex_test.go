package lex

import (
	"math"
	"math/big"
	"regexp"
	"slices"
	"strconv"
	"strings"
	"testing"
	"unsafe"

	"pannier/api"
)

func whole(n int64, at int) api.Token { return api.Token{Kind: api.TkInt, N: n, At: at} }

func text(s string, at int) api.Token { return api.Token{Kind: api.TkText, S: s, At: at} }

func name(s string, at int) api.Token { return api.Token{Kind: api.TkName, S: s, At: at} }

func sign(s string, at int) api.Token { return api.Token{Kind: api.TkSign, S: s, At: at} }

// cuts holds Cut of s against the tokens that it must answer.
func cuts(t *testing.T, s string, want ...api.Token) {
	t.Helper()
	if l, at, err := Cut(s); !slices.Equal(l, want) || at != 0 || err != api.OK {
		t.Errorf("Cut(%.60q): %v %d %v, not %v", s, l, at, err, want)
	}
}

// refuses holds Cut of s against the place and the error that it must answer.
func refuses(t *testing.T, s string, place int, want api.Errno) {
	t.Helper()
	if l, at, err := Cut(s); len(l) != 0 || at != place || err != want {
		t.Errorf("Cut(%.60q): %v %d %v, not %d %v", s, l, at, err, place, want)
	}
}

// allSigns are the signs, each longer one ahead of those that it begins with.
func allSigns() []string {
	return strings.Fields("<> <= >= < > = + - * / % ^ & ( ) , :")
}

// P4.1: decimal digits are a number; noughts ahead of it are let go, all but the last one.
func TestInts(t *testing.T) {
	for s, n := range map[string]int64{
		"0": 0, "7": 7, "10": 10, "1234567890": 1234567890, "1000": 1000,
		"00": 0, "000": 0, "007": 7, "0700": 700, "010": 10,
		"9223372036854775806": math.MaxInt64 - 1, "9223372036854775807": math.MaxInt64, "00009223372036854775807": math.MaxInt64,
		strings.Repeat("0", 300): 0, strings.Repeat("0", 299) + "9": 9, strings.Repeat("0", 281) + "9223372036854775807": math.MaxInt64,
	} {
		cuts(t, s, whole(n, 0))
		if len(s) < 290 {
			cuts(t, " "+s+" +"+s, whole(n, 1), sign("+", len(s)+2), whole(n, len(s)+3))
		}
	}
}

// P4.1: a number that is no int64 begins no token: the place is where it begins.
func TestIntsThatAreNone(t *testing.T) {
	for _, s := range []string{"9223372036854775808", "9223372036854775810", "10000000000000000000", "18446744073709551616", "18446744073709551623", "99999999999999999999", "009223372036854775808", strings.Repeat("9", 290), strings.Repeat("0", 250) + strings.Repeat("1", 20)} {
		for _, behind := range []string{"", "+1", "a", " ", "\"", "_"} {
			refuses(t, s+behind, 0, api.ErrToken)
			refuses(t, "-"+s+behind, 1, api.ErrToken)
			refuses(t, "a1 7 "+s+behind, 5, api.ErrToken)
		}
	}
}

// P4.1: a text is what stands between two ", where "" stands for one.
func TestTexts(t *testing.T) {
	for s, within := range map[string]string{
		`""`: "", `"a"`: "a", `"a b"`: "a b", `" "`: " ", `"aBz"`: "aBz", `"12"`: "12", `"=<>"`: "=<>", `"_'#"`: "_'#",
		`""""`: `"`, `""""""`: `""`, `"a"""`: `a"`, `"""a"`: `"a`, `"a""b"`: `a"b`, `"a""""b"`: `a""b`, `"a "" b"`: `a " b`,
		"\"\x00\n\t\x7f\x80\xff\"": "\x00\n\t\x7f\x80\xff", "\"\u00e4\u20ac\"": "\u00e4\u20ac", "\"\xc3\"": "\xc3",
		`"` + strings.Repeat("m", 298) + `"`: strings.Repeat("m", 298), strings.Repeat(`"`, 300): strings.Repeat(`"`, 149),
	} {
		cuts(t, s, text(within, 0))
	}
	cuts(t, `"a" "b"`, text("a", 0), text("b", 4))
	cuts(t, `"a"b"c"`, text("a", 0), name("B", 3), text("c", 4))
	cuts(t, `"" """"&""`, text("", 0), text(`"`, 3), sign("&", 7), text("", 8))
}

// P4.1: a text without an end begins no token: the place is where it begins, not that of a " within.
func TestTextsWithoutAnEnd(t *testing.T) {
	for _, s := range []string{`"`, `"a`, `"a b`, `"""`, `"a""`, `"""a`, `"a""b`, `"a""""`, `"a""""""`, "\"\xff", `"_`, `"9223372036854775808`, strings.Repeat(`"`, 291), `"` + strings.Repeat("m", 290)} {
		refuses(t, s, 0, api.ErrToken)
		refuses(t, " "+s, 1, api.ErrToken)
		refuses(t, `"" 1a`+s, 5, api.ErrToken)
	}
}

// P4.1: a letter, then letters and digits, in upper case, are a name, however long.
func TestNames(t *testing.T) {
	for s, want := range map[string]string{
		"a": "A", "Z": "Z", "z": "Z", "A1": "A1", "a1": "A1", "aB9": "AB9", "sum": "SUM", "true": "TRUE", "aa10": "AA10", "a1b2": "A1B2", "x0": "X0", "a007": "A007",
		"a99999999999999999999": "A99999999999999999999", "abcdefghijklmnopqrstuvwxyz": "ABCDEFGHIJKLMNOPQRSTUVWXYZ", "ABCDEFGHIJKLMNOPQRSTUVWXYZ": "ABCDEFGHIJKLMNOPQRSTUVWXYZ", "a0123456789": "A0123456789",
		strings.Repeat("q", 300): strings.Repeat("Q", 300), "q" + strings.Repeat("9", 299): "Q" + strings.Repeat("9", 299),
	} {
		cuts(t, s, name(want, 0))
	}
	cuts(t, "1a2", whole(1, 0), name("A2", 1))
	cuts(t, "12ab 3 c", whole(12, 0), name("AB", 2), whole(3, 5), name("C", 7))
	cuts(t, "a b", name("A", 0), name("B", 2))
	cuts(t, `a"b"`, name("A", 0), text("b", 1))
}

// P4.1: each sign alone, and behind each other one: the longest goes first.
func TestSigns(t *testing.T) {
	for _, s := range allSigns() {
		cuts(t, s, sign(s, 0))
		cuts(t, "1"+s+"a", whole(1, 0), sign(s, 1), name("A", 1+len(s)))
	}
	cuts(t, "< > <> <= >=", sign("<", 0), sign(">", 2), sign("<>", 4), sign("<=", 7), sign(">=", 10))
	cuts(t, "<><=>=<>", sign("<>", 0), sign("<=", 2), sign(">=", 4), sign("<>", 6))
	cuts(t, "< >= =", sign("<", 0), sign(">=", 2), sign("=", 5))
	cuts(t, "<>=", sign("<>", 0), sign("=", 2))
	cuts(t, "<=>", sign("<=", 0), sign(">", 2))
	cuts(t, "><=", sign(">", 0), sign("<=", 1))
	cuts(t, "<<=", sign("<", 0), sign("<=", 1))
	cuts(t, ">>=", sign(">", 0), sign(">=", 1))
	cuts(t, "=<>", sign("=", 0), sign("<>", 1))
	cuts(t, "=>==", sign("=", 0), sign(">=", 1), sign("=", 3))
	cuts(t, "<<>>", sign("<", 0), sign("<>", 1), sign(">", 3))
}

// P4.1: whole formulas; blanks ahead, behind and between are passed over, where there are none too.
func TestFormulas(t *testing.T) {
	cuts(t, "")
	cuts(t, " ")
	cuts(t, strings.Repeat(" ", 300))
	cuts(t, `a1+"x"`, name("A1", 0), sign("+", 2), text("x", 3))
	cuts(t, "  a1  +  1  ", name("A1", 2), sign("+", 6), whole(1, 9))
	cuts(t, "=Sum(a1:B2, -3)>=TRUE", sign("=", 0), name("SUM", 1), sign("(", 4), name("A1", 5), sign(":", 7), name("B2", 8), sign(",", 10), sign("-", 12), whole(3, 13), sign(")", 14), sign(">=", 15), name("TRUE", 17))
	cuts(t, `if(x<>"",2^10%7,"no ""x""")&""`, name("IF", 0), sign("(", 2), name("X", 3), sign("<>", 4), text("", 6), sign(",", 8), whole(2, 9), sign("^", 10), whole(10, 11), sign("%", 13), whole(7, 14), sign(",", 15), text(`no "x"`, 16), sign(")", 26), sign("&", 27), text("", 28))
}

// P4.1: a text of MaxSrc bytes is cut; one of one byte more is not, whatever is in it.
func TestLongTexts(t *testing.T) {
	cuts(t, strings.Repeat(" ", 299)+"1", whole(1, 299))
	cuts(t, "1"+strings.Repeat(" ", 299), whole(1, 0))
	var signs []api.Token
	for at := range 300 {
		signs = append(signs, sign("(", at))
	}
	cuts(t, strings.Repeat("(", 300), signs...)
	refuses(t, strings.Repeat("(", 299)+"_", 299, api.ErrToken)
	refuses(t, strings.Repeat(" ", 299)+`"`, 299, api.ErrToken)
	for _, s := range []string{" ", "1", "a", "(", `"`, "_", "\xff", "9"} {
		refuses(t, strings.Repeat(s, 301), 0, api.ErrLong)
		refuses(t, strings.Repeat(s, 302), 0, api.ErrLong)
		refuses(t, strings.Repeat(s, 1<<20), 0, api.ErrLong)
	}
	refuses(t, strings.Repeat("\u00e4", 151), 0, api.ErrLong)
	refuses(t, "_"+strings.Repeat(" ", 300), 0, api.ErrLong)
}

// P4.1: of all bytes, what begins a token and what begins none, alone and behind a token.
func TestBytes(t *testing.T) {
	const begins = "abcdefghijklmnopqrstuvwxyzABCDEFGHIJKLMNOPQRSTUVWXYZ0123456789+-*/%^&=<>(),: "
	for c := range 256 {
		s := string([]byte{byte(c)})
		if strings.Contains(begins, s) {
			if l, at, err := Cut("(" + s); len(l) != 1+len(strings.Trim(s, " ")) || at != 0 || err != api.OK {
				t.Errorf("Cut of ( and %q: %v %d %v", s, l, at, err)
			}
			continue
		}
		for _, ahead := range []string{"", " ", "1", "a", "(", "<", `""`, "1 + "} {
			if s == `"` && strings.HasSuffix(ahead, s) {
				continue
			}
			refuses(t, ahead+s, len(ahead), api.ErrToken)
			refuses(t, ahead+s+"1", len(ahead), api.ErrToken)
		}
	}
}

// P4.1: the first place that begins no token is told, whatever is wrong behind it.
func TestFirstPlace(t *testing.T) {
	refuses(t, "1+_", 2, api.ErrToken)
	refuses(t, "a.b", 1, api.ErrToken)
	refuses(t, "a1 #", 3, api.ErrToken)
	refuses(t, "$A$1", 0, api.ErrToken)
	refuses(t, "1\t2", 1, api.ErrToken)
	refuses(t, "a!b", 1, api.ErrToken)
	refuses(t, "1;2;3", 1, api.ErrToken)
	refuses(t, "a\u00e4", 1, api.ErrToken)
	refuses(t, "\u212a1", 0, api.ErrToken) // a letter elsewhere, whose small letter is k
	refuses(t, "1\u0661", 1, api.ErrToken)
	refuses(t, "a\u00a0b", 1, api.ErrToken)
	refuses(t, `_ "a`, 0, api.ErrToken)
	refuses(t, `"a" _ 99999999999999999999 "`, 4, api.ErrToken)
	refuses(t, `99999999999999999999 _`, 0, api.ErrToken)
	refuses(t, `1 "_`, 2, api.ErrToken)
}

// spelled finds a token by the chapter's words; a " right behind a text shows that the text has no end.
var spelled = regexp.MustCompile(`^(?s:([0-9]+)|("(?:[^"]|"")*"(?:$|[^"]))|([A-Za-z][0-9A-Za-z]*)|(<>|<=|>=|[-+*/%^&=<>(),:]))`)

// truth is what Cut of a text that is not too long must answer, by spelled.
func truth(s string) (l []api.Token, at int, err api.Errno) {
	for {
		rest := strings.TrimLeft(s[at:], " ")
		at = len(s) - len(rest)
		m := spelled.FindStringSubmatch(rest)
		switch {
		case rest == "":
			return l, 0, api.OK
		case m == nil:
			return nil, at, api.ErrToken
		case m[1] != "":
			n, _ := new(big.Int).SetString(m[1], 10)
			if !n.IsInt64() {
				return nil, at, api.ErrToken
			}
			l = append(l, whole(n.Int64(), at))
		case m[2] != "":
			within := m[2][1:strings.LastIndexByte(m[2], '"')]
			l = append(l, text(strings.ReplaceAll(within, `""`, `"`), at))
			m[0] = `"` + within + `"`
		case m[3] != "":
			l = append(l, name(strings.ToUpper(m[3]), at))
		default:
			l = append(l, sign(m[4], at))
		}
		at += len(m[0])
	}
}

// agrees holds Cut of s against the truth.
func agrees(t *testing.T, s string) {
	t.Helper()
	want, place, fault := truth(s)
	if l, at, err := Cut(s); !slices.Equal(l, want) || at != place || err != fault {
		t.Errorf("Cut(%q): %v %d %v, not %v %d %v", s, l, at, err, want, place, fault)
	}
}

// P4.1: all short texts of what tokens are made of and of what they are not.
func TestShortTexts(t *testing.T) {
	pieces := []string{"0", "7", "a", "Z", `"`, "<", ">", "=", "+", " ", "_", "\xff", "9223372036854775808"}
	texts := []string{""}
	for from, length := 0, 0; length < 4; length++ {
		for to := len(texts); from < to; from++ {
			for _, piece := range pieces {
				texts = append(texts, texts[from]+piece)
			}
		}
	}
	for _, s := range texts {
		agrees(t, s)
	}
}

// P4.1: all texts of two bytes, alone and within a formula.
func TestPairsOfBytes(t *testing.T) {
	for a := range 256 {
		for b := range 256 {
			s := string([]byte{byte(a), byte(b)})
			agrees(t, s)
			agrees(t, "a1"+s+`" 1"`)
		}
	}
}

// spelling is a token as it may stand in a formula.
func spelling(k api.Token) string {
	switch k.Kind {
	case api.TkInt:
		return strconv.FormatInt(k.N, 10)
	case api.TkText:
		return Quote(k.S)
	}
	return k.S
}

// P4.3: tokens stand one behind the other; ahead of each, and behind the last one, are blanks alone.
func TestTokensStandInARow(t *testing.T) {
	parts := []string{`"A""B "`, " ", "AB1", "  ", "10", "<>", " ", ">=", "(", `""`, ":", "12", "Q", "   "}
	for turn := range parts {
		s := strings.Join(slices.Concat(parts[turn:], parts[:turn]), "")
		l, _, err := Cut(s)
		if err != api.OK {
			t.Fatalf("Cut(%q): %v", s, err)
		}
		end := 0
		for _, k := range l {
			if k.At < end || strings.Trim(s[end:k.At], " ") != "" || !strings.HasPrefix(s[k.At:], spelling(k)) {
				t.Fatalf("Cut(%q): %v behind place %d", s, k, end)
			}
			end = k.At + len(spelling(k))
		}
		if strings.Trim(s[end:], " ") != "" {
			t.Errorf("Cut(%q): nothing of %q", s, s[end:])
		}
	}
}

// P4.1: a to z become A to Z; each other byte stays, also in texts that are too long to be cut.
func TestUpper(t *testing.T) {
	for s, want := range map[string]string{
		"": "", "a": "A", "z": "Z", "A": "A", "Z": "Z", "aZ09": "AZ09", "`a{z@A[Z": "`A{Z@A[Z", "a b": "A B", "\x00a\xffz": "\x00A\xffZ",
		"\u00e4a": "\u00e4A", "\u00dfs": "\u00dfS", "\u0131i": "\u0131I", "\xe4": "\xe4", "\xc3a": "\xc3A", "\u017f": "\u017f",
		strings.Repeat("x\xff", 1<<20): strings.Repeat("X\xff", 1<<20),
	} {
		if got := Upper(s); got != want {
			t.Errorf("Upper(%.40q): %.40q, not %.40q", s, got, want)
		}
	}
	for c := range 256 {
		want := []byte{byte(c)}
		if i := strings.IndexByte("abcdefghijklmnopqrstuvwxyz", byte(c)); i >= 0 {
			want[0] = "ABCDEFGHIJKLMNOPQRSTUVWXYZ"[i]
		}
		if got := Upper(string([]byte{byte(c)})); got != string(want) {
			t.Errorf("Upper of byte %d: %q, not %q", c, got, want)
		}
	}
}

// P4.2: " ahead and behind, each " within twice.
func TestQuote(t *testing.T) {
	for s, want := range map[string]string{
		"": `""`, "a": `"a"`, "a b": `"a b"`, " ": `" "`, "aZ": `"aZ"`, "'": `"'"`, `\`: `"\"`, "\n\x00\xff": "\"\n\x00\xff\"", "\u00e4": "\"\u00e4\"",
		`"`: `""""`, `""`: `""""""`, `a"b"`: `"a""b"""`, `"a`: `"""a"`, `a""b`: `"a""""b"`,
		strings.Repeat(`"`, 1<<20): strings.Repeat(`"`, 1<<21+2),
	} {
		if got := Quote(s); got != want {
			t.Errorf("Quote(%.40q): %.40q, not %.40q", s, got, want)
		}
	}
}

// P4.3: Cut of Quote is one text, the text; ErrLong, if its token is too long.
func TestQuoteAndBack(t *testing.T) {
	texts := []string{"", `"`, `""`, `a"`, `"a`, ` " `, "TRUE", "12", "=A1", "it's", "\x00\xff\"\n", strings.Repeat("m", 298), strings.Repeat(`"`, 149), "a" + strings.Repeat(`"`, 148)}
	for c := range 256 {
		texts = append(texts, string([]byte{byte(c)}), string([]byte{'"', byte(c), '"'}), string([]byte{byte(c), '"', byte(c)}))
	}
	for _, s := range texts {
		cuts(t, Quote(s), text(s, 0))
	}
	for _, s := range []string{strings.Repeat("m", 299), strings.Repeat(`"`, 150), strings.Repeat("m", 297) + `"`, strings.Repeat("m", 1<<20)} {
		refuses(t, Quote(s), 0, api.ErrLong)
	}
}

// Rule 2: what is told is new memory.
func TestNewMemory(t *testing.T) {
	s := strings.Clone(`AB1+"xyz"<>"a""b"`)
	first, _, _ := Cut(s)
	second, _, _ := Cut(s)
	if &first[0] == &second[0] {
		t.Error("two answers of Cut share their list")
	}
	from := uintptr(unsafe.Pointer(unsafe.StringData(s)))
	for i, k := range first {
		at := unsafe.StringData(k.S)
		if place := uintptr(unsafe.Pointer(at)); place >= from && place < from+uintptr(len(s)) || at == unsafe.StringData(second[i].S) {
			t.Errorf("token %q of Cut shares its text", k.S)
		}
	}
	for _, s := range []string{"A", "ABC", "abc", "9"} {
		s = strings.Clone(s)
		if got := unsafe.StringData(Upper(s)); got == unsafe.StringData(s) || got == unsafe.StringData(Upper(s)) {
			t.Errorf("Upper of %q shares its text", s)
		}
		if got := unsafe.StringData(Quote(s)); got == unsafe.StringData(Quote(s)) {
			t.Errorf("Quote of %q shares its text", s)
		}
	}
}
