package source

import (
	"math"
	"math/big"
	"math/rand"
	"regexp"
	"strings"
	"testing"
	"unsafe"

	"pannier/api"
	"pannier/print"
	"pannier/tree"
	"pannier/value"
)

func whole(n int64) api.Value { return api.Value{Kind: api.Int, N: n} }

func truth(n int64) api.Value { return api.Value{Kind: api.Bool, N: n} }

func text(s string) api.Value { return api.Value{Kind: api.Text, S: s} }

// many is s so many times.
func many(s string, n int) string { return strings.Repeat(s, n) }

func leaf(v api.Value) api.Node { return api.Node{Kind: api.Const, V: v} }

func call(args ...api.Node) api.Node { return api.Node{Kind: api.Call, Op: "F", Args: args} }

// same tells whether all fields of x and y are alike.
func same(x, y Source) bool {
	return x.Kind == y.Kind && x.V == y.V && tree.Same(x.N, y.N)
}

// reads holds Read of s against what it must answer.
func reads(t *testing.T, s string, want Source) {
	t.Helper()
	if x, at, err := Read(s); !same(x, want) || at != 0 || err != api.OK {
		t.Errorf("Read(%.80q): %.200v %d %v, not %.200v", s, x, at, err, want)
	}
}

// writes holds Write of x against what it must answer, and there and back: Read of that is x, and Clean of it is it.
func writes(t *testing.T, x Source, want string) {
	t.Helper()
	if s, err := Write(x); s != want || err != api.OK {
		t.Errorf("Write(%.200v): %.80q %v, not %.80q", x, s, err, want)
	}
	reads(t, want, x)
	cleans(t, want, want)
}

// cleans holds Clean of s against what it must answer.
func cleans(t *testing.T, s, want string) {
	t.Helper()
	if clean, at, err := Clean(s); clean != want || at != 0 || err != api.OK {
		t.Errorf("Clean(%.80q): %.80q %d %v, not %.80q", s, clean, at, err, want)
	}
}

// refuses holds Read and Clean of s against the error, and its place, that they must answer.
func refuses(t *testing.T, s string, at int, want api.Errno) {
	t.Helper()
	if x, place, err := Read(s); !same(x, Source{}) || place != at || err != want {
		t.Errorf("Read(%.80q): %.200v %d %v, not %d %v", s, x, place, err, at, want)
	}
	if clean, place, err := Clean(s); clean != "" || place != at || err != want {
		t.Errorf("Clean(%.80q): %.80q %d %v, not %d %v", s, clean, place, err, at, want)
	}
}

// unwritten holds Write of x against the error that it must answer.
func unwritten(t *testing.T, name string, x Source, want api.Errno) {
	t.Helper()
	if s, err := Write(x); s != "" || err != want {
		t.Errorf("%s: %.80q %v, not %v", name, s, err, want)
	}
}

// P7.1, P7.2: an empty text is nothing, and nothing is an empty text.
func TestNothing(t *testing.T) {
	writes(t, Source{}, "")
	if s, err := Write(Source{N: api.Node{Args: []api.Node{}}}); s != "" || err != api.OK {
		t.Error("an empty list is none", s, err)
	}
}

// P7.1, P7.2: a number is what num.Parse tells, up to the least and the greatest.
func TestNumbers(t *testing.T) {
	for s, n := range map[string]int64{
		"0": 0, "7": 7, "12": 12, "-1": -1, "-5": -5, "100": 100, "4294967296": 1 << 32,
		"9223372036854775807": math.MaxInt64, "9223372036854775806": math.MaxInt64 - 1,
		"-9223372036854775808": math.MinInt64, "-9223372036854775807": math.MinInt64 + 1,
	} {
		writes(t, Source{Kind: 1, V: whole(n)}, s)
		writes(t, Source{Kind: 1, V: text(s)}, "'"+s)
	}
}

// P7.1, P7.2: TRUE and FALSE are truths.
func TestTruths(t *testing.T) {
	for s, n := range map[string]int64{"TRUE": 1, "FALSE": 0} {
		writes(t, Source{Kind: 1, V: truth(n)}, s)
		writes(t, Source{Kind: 1, V: text(s)}, "'"+s)
	}
}

// plainTexts are texts that stand as they are; what is nearly a number, a truth or a formula among them.
func plainTexts() []string {
	return []string{
		"abc", "a", "x'", "a'b", "a=1", "\"x\"", "\"", ".", ",", "A1", "A1:B2", "SUM(1)", "1+2",
		" ", "  ", " 5", "5 ", "012", "00", "-0", "-05", "+5", "-", "--5", "- 5", "5-", "1.0", "1e3", "0x10", "1_000", "12a", "\u0661",
		"9223372036854775808", "-9223372036854775809", "18446744073709551616", many("9", 200), "-" + many("1", 199), many("0", 200),
		"true", "True", "FALSe", "false", "TRUE ", " TRUE", "TRUEFALSE", "TRU", "FALS", "TRUE\x00", "\"TRUE\"",
		" =1", "\t=1", "\n=1", "\x00=", "\uff1d1", " '", " 'a", "\u2019a", "`", "#DIV", "?", "-=1", "1=1", "0'",
		"\x00", "\n", "a\nb", "\r\n", "\t", "\x7f", "\x80", "\xff", "\xff\xfe", "\xc3", "\u00e9", "\ufeff1", "\U0001f600",
		many("x", 199), many("x", 200), many("\xff", 200), many("\u00e9", 100), many(" ", 200),
	}
}

// P7.1, P7.2: every other text is what it is, and is written as it is; with ' ahead it is the same.
func TestPlainTexts(t *testing.T) {
	for _, s := range plainTexts() {
		writes(t, Source{Kind: 1, V: text(s)}, s)
		reads(t, "'"+s, Source{Kind: 1, V: text(s)})
		cleans(t, "'"+s, s)
	}
}

// P7.1, P7.2: what would be something else as it stands is a text by ' ahead, and is written so; be that a formula or what is none.
func TestQuotedTexts(t *testing.T) {
	for _, s := range []string{
		"", "'", "''", "'''", "'a", "'12", "''12", "'TRUE", "'=1", "' ", "'" + many("x", 199), many("'", 200),
		"0", "-1", "9223372036854775807", "-9223372036854775808", "TRUE", "FALSE",
		"=", "==", "=1", "= 1", "=A1+1", "=a1", "='", "=\"x\"", "=1+", "=_", "=\xff", "=(1", "=" + many("-", 16) + "1", "=" + many("(", 41), "=" + many("1", 199), "=" + many("x", 199), "=\"" + many("x", 197) + "\"",
	} {
		writes(t, Source{Kind: 1, V: text(s)}, "'"+s)
	}
	for s, want := range map[string]string{"'": "", "''": "'", "'''": "''", "'12": "12", "'=1": "=1", "' 1": " 1"} {
		reads(t, s, Source{Kind: 1, V: text(want)})
	}
}

// P7.1: a Text of MaxText bytes, and one of one byte more, with and without ' ahead; a source of MaxSrc bytes, and one of one byte more, whatever it begins with.
func TestLengths(t *testing.T) {
	for _, c := range []string{"x", "1", " ", "\xff", "\"", "9"} {
		most := many(c, 200)
		reads(t, most, Source{Kind: 1, V: text(most)})
		reads(t, "'"+most, Source{Kind: 1, V: text(most)})
		for _, n := range []int{201, 202, 299, 300, 301, 302, 1 << 20} {
			refuses(t, many(c, n), 0, api.ErrLong)
			refuses(t, "'"+many(c, n), 0, api.ErrLong)
		}
	}
	most := many("'", 201)
	reads(t, most, Source{Kind: 1, V: text(most[1:])})
	refuses(t, most+"'", 0, api.ErrLong)
	refuses(t, many("\u00e9", 101), 0, api.ErrLong)
	refuses(t, "-"+many("0", 300), 0, api.ErrLong)
	one, bad := leaf(whole(1)), "_"
	reads(t, "="+many(" ", 298)+"1", Source{Kind: 2, N: one})
	reads(t, "=1"+many(" ", 298), Source{Kind: 2, N: one})
	reads(t, "="+many("0", 298)+"1", Source{Kind: 2, N: one})
	refuses(t, "="+many(" ", 298)+bad, 299, api.ErrToken)
	refuses(t, "="+many(" ", 299), 300, api.ErrParse)
	for _, behind := range []int{300, 301, 302, 1 << 20} {
		refuses(t, "="+many(" ", behind-1)+"1", 0, api.ErrLong)
		refuses(t, "="+bad+many(" ", behind-1), 0, api.ErrLong)
		refuses(t, "="+many("(", behind), 0, api.ErrLong)
	}
}

// P7.1, P7.2: a formula is what tree.Parse tells of what follows the =, and is written as print.Text tells it.
func TestFormulas(t *testing.T) {
	for s, want := range map[string]string{
		"=1": "=1", "= a1 + 1": "=A1+1", "=sum( b2 : a1 )": "=SUM(A1:B2)", "=007": "=7", "=-(2)": "=-2", "=(-2)^2": "=-2^2", "=-(2^2)": "=-(2^2)", "=((1))": "=1", "=true": "=TRUE", "=FALSE": "=FALSE",
		"=\"\"": "=\"\"", "=\"x\"": "=\"x\"", "=\"=1\"": "=\"=1\"", "=\"a\"\"b\"": "=\"a\"\"b\"", "=\"'\"": "=\"'\"", "=f()": "=F()", "=if(a1=1,\"=\",\"'x\")": "=IF(A1=1,\"=\",\"'x\")", "=1=2": "=1=2", "=(1=2)=3": "=(1=2)=3",
		"=1-(2-3)": "=1-(2-3)", "=(1-2)-3": "=1-2-3", "=\"" + many("x", 200) + "\"": "=\"" + many("x", 200) + "\"", "= \"\xff\n\"": "=\"\xff\n\"",
	} {
		n, _, err := tree.Parse(s[1:])
		if err != api.OK {
			t.Fatal(s, err)
		}
		reads(t, s, Source{Kind: 2, N: n})
		cleans(t, s, want)
		writes(t, Source{Kind: 2, N: n}, want)
	}
}

// P7.1: each error of tree.Parse, its place and 1; also where the place in what follows the = is 0.
func TestWrongFormulas(t *testing.T) {
	for _, x := range []struct {
		s   string
		at  int
		err api.Errno
	}{
		{"=", 1, api.ErrParse}, {"= ", 2, api.ErrParse}, {"==1", 1, api.ErrParse}, {"=1+", 3, api.ErrParse}, {"= (1", 4, api.ErrParse}, {"=1 2", 3, api.ErrParse}, {"=)", 1, api.ErrParse}, {"=1=2=3", 4, api.ErrParse}, {"=A0", 1, api.ErrParse}, {"=1+AY1", 3, api.ErrParse}, {"=A1:", 4, api.ErrParse}, {"=F(1,,2)", 5, api.ErrParse}, {"=ABCDEFGHI(1)", 1, api.ErrParse}, {"=F(1,2,3,4,5,6,7,8,9,0,1)", 23, api.ErrParse}, {"=1+\"" + many("x", 201) + "\"", 3, api.ErrParse},
		{"=_", 1, api.ErrToken}, {"=1+_", 3, api.ErrToken}, {"='1", 1, api.ErrToken}, {"=\"x", 1, api.ErrToken}, {"=1&\"x\"\"", 3, api.ErrToken}, {"=9223372036854775808", 1, api.ErrToken}, {"=1+ \x00", 4, api.ErrToken}, {"=1)\xff", 3, api.ErrToken}, {"=\n1", 1, api.ErrToken},
		{"=" + many("-", 16) + "1", 1, api.ErrDeep}, {"=" + many("-", 41) + "1", 1, api.ErrDeep}, {"=" + many("(", 41), 1, api.ErrDeep}, {"=1" + many("^1", 41), 1, api.ErrDeep}, {"= 1" + many("+1", 16), 1, api.ErrDeep},
	} {
		refuses(t, x.s, x.at, x.err)
		refuses(t, x.s+many(" ", 300), 0, api.ErrLong)
		reads(t, "'"+x.s[:min(len(x.s), 200)], Source{Kind: 1, V: text(x.s[:min(len(x.s), 200)])})
	}
	deepest, _, _ := tree.Parse(many("-", 15) + "1")
	reads(t, "="+many("-", 15)+"1", Source{Kind: 2, N: deepest})
}

// padded is a formula whose text, with = ahead, has so many bytes.
func padded(bytes int) (api.Node, string) {
	x := many("x", 190)
	y := many("y", bytes-len(x)-len(`=F("","")`))
	return call(leaf(text(x)), leaf(text(y))), `=F("` + x + `","` + y + `")`
}

// P7.2: a formula whose source has MaxSrc bytes is written, a longer one is ErrLong, its = being one of the bytes.
func TestWrittenLengths(t *testing.T) {
	for _, bytes := range []int{299, 300} {
		n, want := padded(bytes)
		writes(t, Source{Kind: 2, N: n}, want)
	}
	for _, bytes := range []int{301, 302, 350} {
		n, s := padded(bytes)
		unwritten(t, s, Source{Kind: 2, N: n}, api.ErrLong)
		if _, err := print.Text(n); (err == api.OK) != (bytes == 301) { // without the = it is just not too long
			t.Error(bytes, err)
		}
	}
	quotes := func(n int, s string) Source { return Source{Kind: 2, N: leaf(text(many(`"`, n) + s))} }
	writes(t, quotes(148, "x"), "="+many(`"`, 297)+`x"`)
	unwritten(t, "149 quotes", quotes(149, ""), api.ErrLong)
	unwritten(t, "150 quotes", quotes(150, ""), api.ErrLong)
	unwritten(t, "200 quotes", quotes(200, ""), api.ErrLong)
}

// wrongValues are values that are no good Int, Bool or Text.
func wrongValues() []api.Value {
	l := []api.Value{{}, {N: 1}, {S: "x"}, truth(2), truth(-1), truth(1 << 32), {Kind: api.Bool, S: "TRUE"}, {Kind: api.Int, S: "1"}, {Kind: api.Int, N: 1, S: "1"}, {Kind: api.Text, N: 1, S: "x"}, {Kind: api.Text, N: -1}, text(many("x", 201)), text(many("1", 300)), text("=" + many("1", 200)), text(many("x", 1<<20)), text(many("\u00e9", 101))}
	for n := range int64(11) {
		l = append(l, api.Value{Kind: api.Fault, N: n - 1}, api.Value{Kind: api.Fault, N: n - 1, S: "x"})
	}
	for _, kind := range []int{-1, 5, 6, 256, 257, 1 << 32, 1<<32 + api.Int, math.MaxInt, math.MinInt, math.MinInt + api.Text} {
		l = append(l, api.Value{Kind: kind}, api.Value{Kind: kind, N: 1}, api.Value{Kind: kind, S: "x"})
	}
	return l
}

// P7.2: ErrForm of a value that is no good Int, Bool or Text.
func TestWrongValues(t *testing.T) {
	for _, v := range wrongValues() {
		unwritten(t, "wrong value "+v.S[:min(9, len(v.S))], Source{Kind: 1, V: v}, api.ErrForm)
	}
}

// otherTrees are trees that are not zero, good ones among them.
func otherTrees() []api.Node {
	loop := make([]api.Node, 1)
	loop[0] = api.Node{Args: loop}
	return []api.Node{leaf(whole(1)), leaf(api.Value{}), call(), {Kind: -1}, {Kind: 7}, {V: text("x")}, {V: whole(0)}, {V: api.Value{N: 1}}, {Op: "+"}, {R: api.Rect{From: api.Addr{Row: 1}}}, {R: api.Rect{To: api.Addr{Col: -1}}}, {Args: make([]api.Node, 1)}, {Args: make([]api.Node, 1999)}, {Args: make([]api.Node, 2000)}, {Args: make([]api.Node, 1<<20)}, loop[0]}
}

// P7.2: ErrForm where a field that the Kind does not name is not zero.
func TestUnnamedFields(t *testing.T) {
	good := leaf(whole(2))
	for i, v := range append(wrongValues(), whole(0), whole(1), truth(0), truth(1), text(""), text("x")) {
		if i == 0 { // it is zero
			continue
		}
		unwritten(t, "nothing with V", Source{V: v}, api.ErrForm)
		unwritten(t, "formula with V", Source{Kind: 2, V: v, N: good}, api.ErrForm)
	}
	for _, n := range otherTrees() {
		unwritten(t, "nothing with N", Source{N: n}, api.ErrForm)
		unwritten(t, "nothing with both", Source{V: whole(1), N: n}, api.ErrForm)
		for _, v := range []api.Value{whole(1), truth(1), text(""), text("x"), text("=1"), text(many("x", 200)), {}, {Kind: api.Fault, N: 1}} {
			unwritten(t, "value with N", Source{Kind: 1, V: v, N: n}, api.ErrForm)
		}
	}
	empty := api.Node{Args: []api.Node{}}
	if s, err := Write(Source{Kind: 1, V: whole(1), N: empty}); s != "1" || err != api.OK {
		t.Error("an empty list is none", s, err)
	}
}

// P7.2: ErrForm of a Kind that there is not, be its fields zero or not.
func TestWrongKinds(t *testing.T) {
	for _, kind := range []int{-1, -2, 3, 4, 256, 257, 258, 1 << 32, 1<<32 + 1, 1<<32 + 2, -1<<32 + 1, math.MaxInt, math.MinInt, math.MinInt + 1, math.MinInt + 2} {
		long, _ := padded(350)
		for _, x := range []Source{{}, {V: whole(1)}, {V: text("x")}, {N: leaf(whole(1))}, {V: whole(1), N: leaf(whole(1))}, {N: long}} {
			x.Kind = kind
			unwritten(t, "wrong Kind", x, api.ErrForm)
		}
	}
}

// P7.2: of a tree that has no text, print.Text's error.
func TestTreesWithoutText(t *testing.T) {
	for _, n := range append(otherTrees(), api.Node{}, leaf(whole(-1)), leaf(text(many("x", 201))), leaf(truth(2)), call(leaf(api.Value{})), api.Node{Kind: api.Neg}, api.Node{Kind: api.Cell}, api.Node{Kind: api.Binary, Op: "!", Args: []api.Node{leaf(whole(1)), leaf(whole(1))}}) {
		s, err := print.Text(n)
		if err != api.OK {
			unwritten(t, "no text", Source{Kind: 2, N: n}, err)
			continue
		}
		writes(t, Source{Kind: 2, N: n}, "="+s)
	}
	deep := leaf(whole(1))
	for range api.MaxDeep {
		deep = api.Node{Kind: api.Neg, Args: []api.Node{deep}}
	}
	unwritten(t, "deep", Source{Kind: 2, N: deep}, api.ErrForm)
	writes(t, Source{Kind: 2, N: deep.Args[0]}, "="+many("-", 15)+"1")
}

// P7.1: an error's text says the place too.
func TestErrorsAsTexts(t *testing.T) {
	if _, err := read("=1+"); err == nil || err.Error() != "error 13 at 3" {
		t.Error(err)
	}
}

// P7.2: where several errors apply, print.Text's goes ahead of that of a V that is not zero, which goes ahead of that of the source's length.
func TestOrderOfErrors(t *testing.T) {
	tooLong, _ := padded(302)
	withoutEquals, _ := padded(301)
	for _, v := range []api.Value{whole(1), text("x"), {Kind: 9}, {N: 1}} {
		unwritten(t, "no text, and V", Source{Kind: 2, V: v, N: tooLong}, api.ErrLong)
		unwritten(t, "not good, and V", Source{Kind: 2, V: v, N: api.Node{Kind: 9}}, api.ErrForm)
		unwritten(t, "source too long, and V", Source{Kind: 2, V: v, N: withoutEquals}, api.ErrForm)
	}
}

// guess tells by the chapter's words what s, of at most MaxText bytes, is, where it is no formula.
func guess(s string) Source {
	digits := regexp.MustCompile(`^(0|-?[1-9][0-9]*)\z`)
	if n, ok := new(big.Int).SetString(s, 10); ok && digits.MatchString(s) && n.IsInt64() {
		return Source{Kind: 1, V: whole(n.Int64())}
	}
	switch {
	case s == "":
		return Source{}
	case s == "TRUE" || s == "FALSE":
		return Source{Kind: 1, V: truth(int64(5 - len(s)))}
	case s[0] == '\'':
		return Source{Kind: 1, V: text(s[1:])}
	}
	return Source{Kind: 1, V: text(s)}
}

// holds holds all that the promises say of the text s against one another.
func holds(t *testing.T, s string) {
	t.Helper()
	x, at, err := Read(s)
	switch {
	case strings.HasPrefix(s, "=") && len(s) <= api.MaxSrc:
		n, place, number := tree.Parse(s[1:])
		if number != api.OK {
			refuses(t, s, place+1, number)
			return
		}
		reads(t, s, Source{Kind: 2, N: n})
	case err != api.OK:
		if at != 0 || err != api.ErrLong || len(s) <= api.MaxText {
			t.Fatalf("Read(%q): %d %v", s, at, err)
		}
		return
	default:
		reads(t, s, guess(s))
	}
	clean, err := Write(x)
	if err != api.OK || len(clean) > len(s) {
		t.Fatalf("Write of Read(%q): %q %v", s, clean, err)
	}
	cleans(t, s, clean)
	writes(t, x, clean)
	if behind, quoted := strings.CutPrefix(clean, "'"); quoted {
		if y, _, err := Read(behind); err == api.OK && same(x, y) {
			t.Fatalf("%q, though %q is enough", clean, behind)
		}
	}
}

// P7.1, P7.2, P7.3: all short texts of bytes that tell sources apart, and each byte in each place of some.
func TestAllShortTexts(t *testing.T) {
	alphabet := "'=1-0\"A TEURx("
	l := []string{""}
	for range 4 {
		var longer []string
		for _, s := range l {
			for i := range len(alphabet) {
				longer = append(longer, s+alphabet[i:i+1])
			}
		}
		for _, s := range longer {
			holds(t, s)
		}
		l = longer
	}
	for c := range 256 {
		b := string([]byte{byte(c)})
		for _, s := range []string{"", "'", "=", "1", "-1", "TRUE", "FALSE", "=1", "a"} {
			for i := range len(s) + 1 {
				holds(t, s[:i]+b+s[i:])
				holds(t, s[:i]+b+s[min(i+1, len(s)):])
			}
		}
	}
}

// P7.1, P7.2, P7.3: longer texts at random, but the same ones each time: formulas, what is nearly one, and others.
func TestManyTexts(t *testing.T) {
	r := rand.New(rand.NewSource(7))
	pieces := []string{"1", "007", " a1", `"x"" "`, "false", "b20:A1", "f()", "sum(1 ,2=3)", "-1", "- - 2", "(2)", "((1+2))", "=", " <>", "<=", "+", "-", " & ", "*", "/", "%", "^", "+", "*", "(", ")", "\"", "'", ",", "_", "\xff", "9223372036854775807", many("x", 90)}
	formulas := 0
	for range 40000 {
		s := []string{"=", "=", "=", "=", "", "'", "'="}[r.Intn(7)]
		for range r.Intn(12) {
			some := pieces
			if r.Intn(8) > 0 { // what may stand in turn, so that many are formulas
				some = [][]string{pieces[:12], pieces[12:24]}[r.Intn(2)]
				if strings.HasSuffix(s, "=") {
					some = pieces[:12]
				}
			}
			s += some[r.Intn(len(some))]
		}
		holds(t, s)
		if x, _, _ := Read(s); x.Kind == 2 {
			formulas++
		}
	}
	if formulas < 2000 {
		t.Error(formulas)
	}
}

// texts are all texts of n that are not empty.
func texts(n api.Node) []string {
	var l []string
	for _, s := range []string{n.V.S, n.Op} {
		if s != "" {
			l = append(l, s)
		}
	}
	for _, arg := range n.Args {
		l = append(l, texts(arg)...)
	}
	return l
}

// shared tells whether two of the texts share a byte of memory.
func shared(texts ...string) bool {
	for i, a := range texts {
		for _, b := range texts[:i] {
			from, from2 := uintptr(unsafe.Pointer(unsafe.StringData(a))), uintptr(unsafe.Pointer(unsafe.StringData(b)))
			if from < from2+uintptr(len(b)) && from2 < from+uintptr(len(a)) {
				return true
			}
		}
	}
	return false
}

// P7.1, P7.2: what is told is new memory, and what is handed in stays as it is.
func TestNewMemory(t *testing.T) {
	for _, s := range []string{"x", "abc", "'x", "'12", "'", "''", "5", "12", "TRUE", "FALSE", "=1", "=12", "=A1", "=\"x\"", "=TRUE", "=-F(\"x\",G(A1:B2))+\"yz\"", many("x", 200)} {
		s = strings.Clone(s)
		x, _, _ := Read(s)
		y, _, _ := Read(s)
		before := Source{Kind: x.Kind, V: x.V, N: tree.Copy(x.N)}
		before.V.S = strings.Clone(x.V.S)
		first, _ := Write(x)
		second, _ := Write(x)
		third, _, _ := Clean(s)
		fourth, _, _ := Clean(s)
		l := []string{s, first, second, third, fourth}
		for _, z := range []Source{x, y} {
			l = append(l, texts(z.N)...)
			l = append(l, texts(api.Node{V: z.V})...)
		}
		if first == "" || shared(l...) || !same(x, before) || !same(x, y) {
			t.Errorf("%q: %q", s, l)
		}
		if len(x.N.Args) > 0 && &x.N.Args[0] == &y.N.Args[0] {
			t.Errorf("%q: two answers share a list", s)
		}
	}
}

// P7.2: the spare room of the lists that are handed in stays as it is.
func TestSpareRoom(t *testing.T) {
	spare := append(make([]api.Node, 0, 5), leaf(text("x")), leaf(whole(1)))
	x := Source{Kind: 2, N: call(spare...)}
	if s, err := Write(x); s != `=F("x",1)` || err != api.OK {
		t.Error(s, err)
	}
	for _, left := range spare[2:5] {
		if !tree.Same(left, api.Node{}) {
			t.Error(left)
		}
	}
}

// P7.3: Read of Write is the source, for values of each kind at random.
func TestManyValues(t *testing.T) {
	r := rand.New(rand.NewSource(3))
	for range 20000 {
		n := int64(r.Uint64()) >> r.Intn(64)
		b := make([]byte, r.Intn(6))
		for i := range b {
			b[i] = "'=-019TFax \x00\xff"[r.Intn(13)]
		}
		for _, v := range []api.Value{whole(n), truth(n & 1), text(string(b)), text(value.Show(whole(n))), text(many("'", r.Intn(3)) + value.Show(whole(n)))} {
			s, err := Write(Source{Kind: 1, V: v})
			if err != api.OK {
				t.Fatal(v, s, err)
			}
			writes(t, Source{Kind: 1, V: v}, s)
		}
	}
}
