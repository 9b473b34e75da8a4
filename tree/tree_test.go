package tree

import (
	"math"
	"math/rand"
	"strings"
	"testing"
	"unsafe"

	"pannier/api"
)

func integer(n int64) api.Node {
	return api.Node{Kind: api.Const, V: api.Value{Kind: api.Int, N: n}}
}

func text(s string) api.Node {
	return api.Node{Kind: api.Const, V: api.Value{Kind: api.Text, S: s}}
}

func truth(n int64) api.Node {
	return api.Node{Kind: api.Const, V: api.Value{Kind: api.Bool, N: n}}
}

func cell(row, col int) api.Node {
	return api.Node{Kind: api.Cell, R: api.Rect{From: api.Addr{Row: row, Col: col}}}
}

func area(row, col, row2, col2 int) api.Node {
	return api.Node{Kind: api.Range, R: api.Rect{From: api.Addr{Row: row, Col: col}, To: api.Addr{Row: row2, Col: col2}}}
}

func neg(n api.Node) api.Node { return api.Node{Kind: api.Neg, Args: []api.Node{n}} }

func two(op string, a, b api.Node) api.Node {
	return api.Node{Kind: api.Binary, Op: op, Args: []api.Node{a, b}}
}

func call(op string, args ...api.Node) api.Node {
	return api.Node{Kind: api.Call, Op: op, Args: args}
}

// equal is Same by another way, and for trees of any size.
func equal(a, b api.Node) bool {
	if a.Kind != b.Kind || a.V != b.V || a.R != b.R || a.Op != b.Op || len(a.Args) != len(b.Args) {
		return false
	}
	for i := range a.Args {
		if !equal(a.Args[i], b.Args[i]) {
			return false
		}
	}
	return true
}

// empty tells whether n is the zero node.
func empty(n api.Node) bool { return equal(n, api.Node{}) }

// parses holds Parse of s against the tree that it must answer.
func parses(t *testing.T, s string, want api.Node) {
	t.Helper()
	n, at, err := Parse(s)
	if !equal(n, want) || at != 0 || err != api.OK {
		t.Errorf("Parse(%.60q): %v %d %v, not %v", s, n, at, err, want)
	}
	if !Good(n) {
		t.Errorf("Parse(%.60q): %v, which is not good", s, n)
	}
}

// refuses holds Parse of s against the place and the error that it must answer.
func refuses(t *testing.T, s string, place int, want api.Errno) {
	t.Helper()
	if n, at, err := Parse(s); !empty(n) || at != place || err != want {
		t.Errorf("Parse(%.60q): %v %d %v, not %d %v", s, n, at, err, place, want)
	}
}

// P5.1: what a part may be.
func TestParts(t *testing.T) {
	for s, want := range map[string]api.Node{
		"0": integer(0), "7": integer(7), "007": integer(7), "9223372036854775807": integer(math.MaxInt64),
		`""`: text(""), `"a"`: text("a"), `"a""b"`: text(`a"b`), `"true"`: text("true"), `"A1"`: text("A1"), `"12"`: text("12"), "\"\x00\xff\"": text("\x00\xff"),
		"TRUE": truth(1), "true": truth(1), "tRuE": truth(1), "FALSE": truth(0), "false": truth(0),
		"A1": cell(1, 1), "a1": cell(1, 1), "Z1000": cell(1000, 26), "aa3": cell(3, 27), "AX1000": cell(1000, 50),
		"A1:B2": area(1, 1, 2, 2), "B2:A1": area(1, 1, 2, 2), "A2:B1": area(1, 1, 2, 2), "b1:a2": area(1, 1, 2, 2), "A1:A1": area(1, 1, 1, 1), "ax1000:a1": area(1, 1, 1000, 50), "C3:A9": area(3, 1, 9, 3),
		"F()": call("F"), "f()": call("F"), "sum(1)": call("SUM", integer(1)), "F(A1:B2,C3)": call("F", area(1, 1, 2, 2), cell(3, 3)),
		"(1)": integer(1), "((A1))": cell(1, 1), "(A1:B2)": area(1, 1, 2, 2), "(\"(\")": text("("),
	} {
		parses(t, s, want)
		parses(t, "  "+s+"   ", want)
		parses(t, "("+s+")", want)
		parses(t, "-"+s, neg(want))
		parses(t, "G("+s+")", call("G", want))
		parses(t, "1+"+s+"+2", two("+", two("+", integer(1), want), integer(2)))
	}
	parses(t, " A1 : B2 ", area(1, 1, 2, 2))
	parses(t, "F ( 1 , 2 )", call("F", integer(1), integer(2)))
}

// P5.1: a text of MaxText bytes may stand there, a longer one can't; it is its own bytes that count.
func TestTextLengths(t *testing.T) {
	for _, b := range []string{"x", "\xff", "\x00"} {
		most := strings.Repeat(b, api.MaxText)
		parses(t, `"`+most+`"`, text(most))
		parses(t, `1&"`+most+`"`, two("&", integer(1), text(most)))
		refuses(t, `"`+most+b+`"`, 0, api.ErrParse)
		refuses(t, ` 1& "`+most+b+`"`, 4, api.ErrParse)
		refuses(t, `F(1,"`+most+b+`"`, 4, api.ErrParse)
		refuses(t, `"`+most+b+`")+*`, 0, api.ErrParse)
		refuses(t, `1+*"`+most+b+`"`, 2, api.ErrParse)
		refuses(t, `1 "`+most+b+`"`, 2, api.ErrParse)
	}
	quotes := strings.Repeat(`""`, 120)
	parses(t, `"`+quotes+`"`, text(quotes[:120]))
	refuses(t, `"`+strings.Repeat(`""`, 40)+strings.Repeat("a", 161)+`"`, 0, api.ErrParse)
	parses(t, `"`+strings.Repeat(`""`, 40)+strings.Repeat("a", 160)+`"`, text(strings.Repeat(`"`, 40)+strings.Repeat("a", 160)))
}

// The signs of each row, the loosest first.
func rows() [][]string {
	return [][]string{{"=", "<>", "<", "<=", ">", ">="}, {"+", "-", "&"}, {"*", "/", "%"}, {"^"}}
}

// P5.1: signs of one row go from left to right, but ^ from right to left; of = and the like there is but one.
func TestSignsOfOneRow(t *testing.T) {
	a, b, c := integer(1), cell(2, 2), text("c")
	for i, row := range rows() {
		for _, s := range row {
			parses(t, "1"+s+"B2", two(s, a, b))
			parses(t, " 1 "+s+" B2 ", two(s, a, b))
			for _, s2 := range row {
				both := "1" + s + `B2` + s2
				whole := both + `"c"`
				switch i {
				case 0:
					refuses(t, whole, len(both)-len(s2), api.ErrParse)
					parses(t, "("+"1"+s+"B2)"+s2+`"c"`, two(s2, two(s, a, b), c))
					parses(t, "1"+s+"(B2"+s2+`"c")`, two(s, a, two(s2, b, c)))
				case 3:
					parses(t, whole, two(s, a, two(s2, b, c)))
				default:
					parses(t, whole, two(s2, two(s, a, b), c))
				}
			}
		}
	}
}

// P5.1: of signs of two rows the looser one is the outer one, whichever stands first.
func TestSignsOfTwoRows(t *testing.T) {
	a, b, c := integer(1), cell(2, 2), truth(1)
	for i, row := range rows() {
		for _, looser := range row {
			for _, tight := range rows()[i+1:] {
				for _, tighter := range tight {
					parses(t, "1"+looser+"B2"+tighter+"TRUE", two(looser, a, two(tighter, b, c)))
					parses(t, "1"+tighter+"B2"+looser+"TRUE", two(looser, two(tighter, a, b), c))
					parses(t, "(1"+looser+"B2)"+tighter+"TRUE", two(tighter, two(looser, a, b), c))
					parses(t, "1"+tighter+"(B2"+looser+"TRUE)", two(tighter, a, two(looser, b, c)))
				}
			}
		}
	}
}

// P5.1: a - that is no sum's binds tightest, ^ included.
func TestNegs(t *testing.T) {
	one, two2, three := integer(1), integer(2), integer(3)
	for s, want := range map[string]api.Node{
		"-1": neg(one), "--1": neg(neg(one)), "- - -1": neg(neg(neg(one))), "-(1)": neg(one), "-F()": neg(call("F")), "-A1:A1": neg(area(1, 1, 1, 1)), "-true": neg(truth(1)),
		"-2^2": two("^", neg(two2), two2), "2^-2": two("^", two2, neg(two2)), "2^-2^3": two("^", two2, two("^", neg(two2), three)), "-2^-2^-3": two("^", neg(two2), two("^", neg(two2), neg(three))), "--2^2": two("^", neg(neg(two2)), two2), "-(2^2)": neg(two("^", two2, two2)),
		"1--2": two("-", one, neg(two2)), "1---2": two("-", one, neg(neg(two2))), "1+-2": two("+", one, neg(two2)), "1*-2": two("*", one, neg(two2)), "-1*2": two("*", neg(one), two2), "-1-2": two("-", neg(one), two2), "1=-2": two("=", one, neg(two2)), "-1&-2": two("&", neg(one), neg(two2)),
		"F(-1,-2)": call("F", neg(one), neg(two2)),
	} {
		parses(t, s, want)
	}
}

// P5.1: longer formulas, the chapter's examples among them.
func TestFormulas(t *testing.T) {
	n := func(k int64) api.Node { return integer(k) }
	for s, want := range map[string]api.Node{
		"1+2*3":                  two("+", n(1), two("*", n(2), n(3))),
		"2^3^2":                  two("^", n(2), two("^", n(3), n(2))),
		"2^3^2^4":                two("^", n(2), two("^", n(3), two("^", n(2), n(4)))),
		"1+2-3&4":                two("&", two("-", two("+", n(1), n(2)), n(3)), n(4)),
		"8/4%3*2":                two("*", two("%", two("/", n(8), n(4)), n(3)), n(2)),
		"1+2*3^4=5-6/7":          two("=", two("+", n(1), two("*", n(2), two("^", n(3), n(4)))), two("-", n(5), two("/", n(6), n(7)))),
		"1^2*3^4+5":              two("+", two("*", two("^", n(1), n(2)), two("^", n(3), n(4))), n(5)),
		"if(a1<2,\"x\"&b1,(c1))": call("IF", two("<", cell(1, 1), n(2)), two("&", text("x"), cell(1, 2)), cell(1, 3)),
		"F(G(H(),1),I(2))":       call("F", call("G", call("H"), n(1)), call("I", n(2))),
		"F(1=2,3<>4)":            call("F", two("=", n(1), n(2)), two("<>", n(3), n(4))),
		"(1=2)=(3=4)":            two("=", two("=", n(1), n(2)), two("=", n(3), n(4))),
	} {
		parses(t, s, want)
	}
	refuses(t, "SUM(A1:A2,B1)*2+-C3:C1%", 23, api.ErrParse)
}

// P5.1: a call has none to ten Args; an eleventh can't begin.
func TestArgs(t *testing.T) {
	for k := range 15 {
		var args []api.Node
		var texts []string
		for i := range k {
			args = append(args, integer(int64(i%10)))
			texts = append(texts, string(rune('0'+i%10)))
		}
		s := "F(" + strings.Join(texts, ",") + ")"
		if k <= api.MaxArgs {
			parses(t, s, call("F", args...))
			parses(t, s+"+"+s, two("+", call("F", args...), call("F", args...)))
			parses(t, "F("+s+")", call("F", call("F", args...)))
			continue
		}
		refuses(t, s, 2+2*api.MaxArgs, api.ErrParse)
	}
	ten := "F(0,1,2,3,4,5,6,7,8,9"
	for _, eleventh := range []string{"1", "(", "-", ")", "F(", `"x"`, "TRUE", "*", ",", "1+*", ":", "A1"} {
		refuses(t, ten+","+eleventh, len(ten)+1, api.ErrParse)
		refuses(t, ten+",  "+eleventh+",1)", len(ten)+3, api.ErrParse)
	}
	refuses(t, ten+",", len(ten)+1, api.ErrParse)
	refuses(t, ten+",  ", len(ten)+3, api.ErrParse)
	refuses(t, ten, len(ten), api.ErrParse)
	refuses(t, "1+*"+ten+",1", 2, api.ErrParse)
	parses(t, "F(0,1,2,3,4,5,6,7,8,G(0,1,2,3,4,5,6,7,8,9))", call("F", integer(0), integer(1), integer(2), integer(3), integer(4), integer(5), integer(6), integer(7), integer(8), call("G", integer(0), integer(1), integer(2), integer(3), integer(4), integer(5), integer(6), integer(7), integer(8), integer(9))))
}

// P5.1: a name with a ( behind it is a function's, of at most 8 bytes; else it is TRUE, FALSE or a cell's, or can't stand there.
func TestNames(t *testing.T) {
	for _, s := range []string{"TRUE", "FALSE", "A1", "AX1000", "AY1", "A0", "A1001", "A01", "F", "SUM", "A1B", "F8", "ABCDEFGH", "A1234567", "Z9999999"} {
		parses(t, s+"()", call(s))
		parses(t, strings.ToLower(s)+" (1)", call(s, integer(1)))
		parses(t, "-"+s+"(A1)", neg(call(s, cell(1, 1))))
	}
	for _, s := range []string{"ABCDEFGHI", "A12345678", "TRUEFALSE", "AVERYLONGNAME"} {
		for _, ahead := range []string{"", " ", "1+", "F(1,", "-", "("} {
			refuses(t, ahead+s, len(ahead), api.ErrParse)
			refuses(t, ahead+s+"()", len(ahead), api.ErrParse)
			refuses(t, ahead+s+"(*", len(ahead), api.ErrParse)
			refuses(t, ahead+s+" (1)", len(ahead), api.ErrParse)
		}
	}
	for _, s := range []string{"F", "SUM", "A", "AY1", "A0", "A01", "A1001", "AAA1", "A1B", "TRU", "TRUE1", "A9999999", "AX", "ABCDEFGH"} {
		for _, ahead := range []string{"", " ", "1+", "F(1,", "-", "(", "A1:"} {
			for _, behind := range []string{"", "+1", ")", ":A1", " ", "*", " 1"} {
				refuses(t, ahead+s+behind, len(ahead), api.ErrParse)
			}
		}
	}
}

// P5.1: behind a : a cell must stand, whose name no ( follows.
func TestRangesThatAreNone(t *testing.T) {
	for _, s := range []string{"B2(1)", "B2(", "B2 (", "SUM(1)", "TRUE", "FALSE", "1", `"B2"`, "-B2", "(B2)", "*", ")", ",", ":", "AY1", "A0", "TRUE(1)", "A", "ABCDEFGHI(1)"} {
		for _, ahead := range []string{"A1:", "a1 : ", "1+A1:", "F(A1:", "-A1:", "(A1:"} {
			refuses(t, ahead+s, len(ahead), api.ErrParse)
		}
	}
	for s, at := range map[string]int{
		"A1:": 3, "A1: ": 4, "A1:B2:C3": 5, "A1:B2:": 5, ":A1": 0, ":": 0, "1:A1": 1, "TRUE:A1": 4, "A1(1):B2": 5, "F():A1": 3, "(A1):B2": 4, "(A1:B2):C3": 7, `"A1":B2`: 4, "A1:B2 C3": 6, "A1:B2(": 3, "A1:B2 1": 6, "AY1:A1": 0, "A1(:": 3,
	} {
		refuses(t, s, at, api.ErrParse)
	}
}

// P5.1: the place is that of the first token that can't stand where it stands, or the text's length.
func TestMisplaced(t *testing.T) {
	for s, at := range map[string]int{
		"": 0, " ": 1, "   ": 3, "(": 1, "( ": 2, "((": 2, ")": 0, "()": 1, "( )": 2, "(1": 2, "(1 ": 3, "(1))": 3, "((1)": 4, "1)": 1, "1 )": 2,
		"1+": 2, "1 + ": 4, "1-": 2, "1*": 2, "1^": 2, "1=": 2, "-": 1, "--": 2, "1--": 3, "+1": 0, "*1": 0, "^1": 0, "=1": 0, "1++1": 2, "1+*1": 2, "1^*2": 2, "1==1": 2, "1=<1": 2, "1<>=1": 3, "1=1=1": 3, "1=1 <> 1": 4, "1<2+3<4": 5, "1=2=": 3, "-+1": 1, "-=": 1,
		"1 2": 2, "1 A1": 2, "1 TRUE": 2, `1"x"`: 1, `"a" "b"`: 4, "A1 B1": 3, "TRUE FALSE": 5, "1(2)": 1, "(1)(2)": 3, `"f"(1)`: 3, "1 F(1)": 2, "F() 1": 4, "F()()": 3, "F(1)F(2)": 4, "12 -": 4,
		",": 0, "1,2": 1, "(1,2)": 2, "F(,)": 2, "F(1,)": 4, "F(,1)": 2, "F(1,,2)": 4, "F(1 2)": 4, "F(": 2, "F( ": 3, "F(1": 3, "F(1,": 4, "F(1, ": 5, "F(1,2": 5, "F)": 0, "F(1))": 4, "F(1=": 4, "F(=": 2, "F(1=1=1)": 5, "F(1=1,1=1=1)": 9, "F((1)": 5, "F((1,2))": 4, "F(G(1,2)": 8, "F(())": 3, "F((": 3,
		"1 + * 2": 4, "1:2": 1, "(1:": 2,
	} {
		refuses(t, s, at, api.ErrParse)
	}
}

// P5.1: a text is no sign, whatever it says.
func TestTextsThatLookLikeSigns(t *testing.T) {
	for _, s := range strings.Fields("= <> < <= > >= + - & * / % ^ ( ) , : TRUE A1 F") {
		quoted := `"` + s + `"`
		parses(t, quoted, text(s))
		parses(t, "-"+quoted, neg(text(s)))
		parses(t, "F("+quoted+")", call("F", text(s)))
		parses(t, "F("+quoted+","+quoted+")", call("F", text(s), text(s)))
		refuses(t, "1"+quoted+"2", 1, api.ErrParse)
		refuses(t, quoted+"1", len(quoted), api.ErrParse)
		refuses(t, "A1"+quoted+"B2", 2, api.ErrParse)
		refuses(t, "A1:"+quoted, 3, api.ErrParse)
		refuses(t, "A1:B2"+quoted+"1)", 5, api.ErrParse)
		refuses(t, "AY1"+quoted+"1)", 0, api.ErrParse)
		refuses(t, "F"+quoted+"1)", 0, api.ErrParse)
		refuses(t, "F(1"+quoted+"2)", 3, api.ErrParse)
		refuses(t, "F("+quoted, 2+len(quoted), api.ErrParse)
		refuses(t, "(1"+quoted, 2, api.ErrParse)
		refuses(t, quoted+"1)", len(quoted), api.ErrParse)
	}
}

// P5.1: what lex refuses goes ahead of all else, with its place.
func TestWhatLexRefuses(t *testing.T) {
	for s, at := range map[string]int{
		"_": 0, "1+_": 2, ")_": 1, "* * _": 4, `"`: 0, `1+"x`: 2, `) "`: 2, "9223372036854775808": 0, "((9223372036854775808": 2, "1\n": 1, "\xff": 0, "A1 #": 3, "=!": 1,
		strings.Repeat("(", 60) + "_": 60, strings.Repeat("1^", 41) + "_": 82, strings.Repeat("1+", 40) + "'": 80,
	} {
		refuses(t, s, at, api.ErrToken)
	}
	refuses(t, strings.Repeat("1", 301), 0, api.ErrLong)
	refuses(t, strings.Repeat("_", 301), 0, api.ErrLong)
	refuses(t, strings.Repeat("(", 301), 0, api.ErrLong)
	refuses(t, strings.Repeat(" ", 301), 0, api.ErrLong)
	refuses(t, strings.Repeat(" ", 1<<20), 0, api.ErrLong)
	refuses(t, strings.Repeat(" ", 300), 300, api.ErrParse)
	parses(t, strings.Repeat(" ", 299)+"7", integer(7))
}

// many is s so many times.
func many(s string, n int) string { return strings.Repeat(s, n) }

// P5.1: what is nested 40 times may begin; ErrDeep, as soon as what is nested 41 times would.
func TestNesting(t *testing.T) {
	parses(t, many("(", 40)+"1"+many(")", 40), integer(1))
	parses(t, many("(", 40)+"1+2*3"+many(")", 40), two("+", integer(1), two("*", integer(2), integer(3))))
	parses(t, many("(", 40)+"F()"+many(")", 40), call("F"))
	parses(t, many("(", 39)+"F(7)"+many(")", 39), call("F", integer(7)))
	parses(t, many("(", 39)+"-1"+many(")", 39), neg(integer(1)))
	parses(t, many("(", 39)+"1^2"+many(")", 39), two("^", integer(1), integer(2)))
	parses(t, many("(", 40)+"1-2"+many(")", 40), two("-", integer(1), integer(2)))
	parses(t, many("(", 40)+"A1:B2"+many(")", 40), area(1, 1, 2, 2))
	parses(t, "-"+many("(", 39)+"1"+many(")", 39)+"^2", two("^", neg(integer(1)), integer(2)))
	parses(t, "1-"+many("(", 40)+"1"+many(")", 40)+"+2", two("+", two("-", integer(1), integer(1)), integer(2)))
	parses(t, many("(", 40)+"1"+many(")", 40)+"="+many("(", 40)+"2"+many(")", 40), two("=", integer(1), integer(2)))
	parses(t, many("(", 38)+"1^-2"+many(")", 38), two("^", integer(1), neg(integer(2))))
	parses(t, many("(", 39)+"-1^2"+many(")", 39), two("^", neg(integer(1)), integer(2)))
	for _, s := range []string{
		many("(", 41), many("(", 41) + "*", many("(", 41) + ")", many("(", 41) + "1" + many(")", 41),
		many("-", 41), many("-", 41) + "1", many("-", 41) + "*", many("1^", 41), many("1^", 41) + "1", many("1^", 41) + ")", "1 " + many("-", 42), "1" + many("-", 41) + "(",
		many("F(", 41), many("F(", 41) + "1", many("F(", 41) + "*", many("F(1,", 41),
		many("(", 40) + "-", many("(", 40) + "-1", many("(", 40) + "1^", many("(", 40) + "1^2", many("(", 40) + "F(1", many("(", 40) + "F(*", many("(", 40) + "F(", many("(", 40) + "F(,",
		many("(", 39) + "1^-", many("(", 39) + "-(", many("(", 39) + "--", many("(", 39) + "1^(", many("(", 39) + "1^2^", many("(", 39) + "F(-",
		many("(1+", 41), many("(", 40) + "1+(", many("(", 40) + "1=(", many("(", 40) + "1+-2", many("(", 40) + "1--", "F(1," + many("(", 40), "1*-" + many("(", 40),
		many("-(", 20) + "-1", many("1^(", 20) + "-", many("-F(", 20) + "(", many("(", 41) + "ABCDEFGHI(", many("(", 41) + `"` + many("x", 201) + `"`,
	} {
		refuses(t, s, 0, api.ErrDeep)
	}
	for s, at := range map[string]int{
		many("(", 40): 40, many("(", 40) + "*": 40, many("(", 40) + ")": 40, many("-", 40): 40, many("-", 40) + ")": 40, many("1^", 40): 80, many("1^", 40) + "*": 80, many("F(", 40): 80, many("F(", 40) + "*": 80, many("F(1,", 40): 160,
		many("(", 40) + "F()": 43, many("(", 40) + "F()1": 43, many("(", 40) + "1": 41, many("(", 40) + "1 2": 42, many("(", 40) + "ABCDEFGHI(1": 40, many("(", 40) + "G": 40,
		"1 " + many("-", 41): 43, "*" + many("(", 41): 0, many("(", 20) + "*" + many("(", 41): 20, "(1))" + many("(", 41): 3,
		many("(", 40) + "1" + many(")", 40) + "(" + many("(", 41): 81, many("-", 20) + "1)" + many("-", 50): 21,
	} {
		refuses(t, s, at, api.ErrParse)
	}
}

// P5.1: in the end a tree of depth MaxDeep is told, one deeper is ErrDeep; what can't stand there goes ahead of it.
func TestDepthOfWhatIsParsed(t *testing.T) {
	for s, unit := range map[string]string{"-": "-#", "^": "1^#", "F": "F(#)", "+": "#+1", "*": "#*2", "=": "(1=#)", "F2": "F(1,#,2)", "/": "(1/#)"} {
		formula := "3"
		for depth := 1; depth <= 20; depth++ {
			n, at, err := Parse(formula)
			switch {
			case depth <= api.MaxDeep && (err != api.OK || at != 0 || !Good(n) || Depth(n) != depth):
				t.Errorf("%s: Parse(%q): %v %d %v at depth %d", s, formula, n, at, err, depth)
			case depth > api.MaxDeep && (err != api.ErrDeep || at != 0 || !empty(n)):
				t.Errorf("%s: Parse(%q): %v %d %v at depth %d", s, formula, n, at, err, depth)
			}
			refuses(t, formula+" )", len(formula)+1, api.ErrParse)
			refuses(t, formula+"+", len(formula)+1, api.ErrParse)
			formula = strings.Replace(unit, "#", formula, 1)
		}
	}
	refuses(t, many("1+", 149)+"1", 0, api.ErrDeep)
	refuses(t, many("1+", 100)+"1)", 201, api.ErrParse)
	refuses(t, many("1*", 100), 200, api.ErrParse)
	// Parentheses make no node.
	parses(t, many("-(", 15)+"1"+many(")", 15), func() api.Node {
		n := integer(1)
		for range 15 {
			n = neg(n)
		}
		return n
	}())
	refuses(t, many("-(", 16)+"1"+many(")", 16), 0, api.ErrDeep)
}

// againstOracle holds Parse of s against the oracle.
func againstOracle(t *testing.T, s string) {
	t.Helper()
	n, at, err := Parse(s)
	want, wantAt, wantErr := oracleParse(s)
	if !equal(n, want) || at != wantAt || err != wantErr || err == api.OK && !Good(n) {
		t.Fatalf("Parse(%q): %v %d %v, not %v %d %v", s, n, at, err, want, wantAt, wantErr)
	}
}

// P5.1, P5.3: all short rows of tokens, against the oracle.
func TestAllShortFormulas(t *testing.T) {
	var each func(ahead string, tokens []string, left int)
	each = func(ahead string, tokens []string, left int) {
		againstOracle(t, ahead)
		if left == 0 {
			return
		}
		for _, token := range tokens {
			each(ahead+token, tokens, left-1)
		}
	}
	all := strings.Split(`1|"x"|"("|TRUE |A1 |B2 |F |LONGNAMED |=|<>|+|&|-|*|%|^|(|)|,|:|  `, "|")
	few := strings.Split("1|A1 |=|-|^|(|)|,|F(", "|")
	depth := 4
	if testing.Short() {
		depth = 3
	}
	each("", all, depth)
	each("", few, depth+2)
}

// P5.1, P5.3: long rows of tokens, against the oracle: at random, but the same ones each time.
func TestLongFormulas(t *testing.T) {
	r := rand.New(rand.NewSource(5))
	parts := []string{"1", "A1", `"x"`, "false", "B2:A1", "F()", "SUM(1,2)", "-1", "(2)", "A01", "TOOLONGER(1)"}
	signs := []string{"=", "<", "+", "-", "&", "*", "/", "%", "^"}
	opens := []string{"(", "-", "1^", "F(", "F(1,", "F(1,2,3,4,5,6,7,8,9,", "1+", "2*", "-(", "A1<"}
	for range 20000 {
		var s strings.Builder
		open := 0
		for range r.Intn(60) {
			if r.Intn(4) > 0 {
				o := opens[r.Intn(len(opens))]
				open += strings.Count(o, "(")
				s.WriteString(o)
				continue
			}
			s.WriteString(parts[r.Intn(len(parts)-2*r.Intn(2))])
			for open > 0 && r.Intn(2) > 0 {
				s.WriteString(")")
				open--
			}
			s.WriteString(signs[r.Intn(len(signs))])
		}
		s.WriteString("7" + many(")", max(0, open+r.Intn(3)/2-r.Intn(3)/2)))
		againstOracle(t, s.String())
	}
}

// P5.2: each kind's fields, and nothing besides.
func TestGood(t *testing.T) {
	one := integer(1)
	for i, n := range []api.Node{
		integer(0), integer(math.MaxInt64), truth(0), truth(1), text(""), text(many("x", 200)), text("\xff\x00"),
		cell(1, 1), cell(1000, 50), area(1, 1, 1, 1), area(1, 1, 1000, 50), area(3, 2, 3, 9),
		neg(one), neg(neg(one)), call("F"), call("ABCDEFGH"), call("A1"), call("TRUE"), call("Z9999999"), call("F", one, one, one, one, one, one, one, one, one, one), call("F", area(1, 1, 2, 2), text("x"), neg(cell(1, 1))),
		{Kind: api.Call, Op: "F", Args: []api.Node{}}, {Kind: api.Const, V: api.Value{Kind: api.Int}, Args: []api.Node{}},
	} {
		if !Good(n) {
			t.Errorf("%d: %v is not good", i, n)
		}
	}
	for _, row := range rows() {
		for _, s := range row {
			if !Good(two(s, one, cell(1, 1))) {
				t.Error(s)
			}
		}
	}
}

// badNodes are nodes that are not good by a field of their own; each is told with what is wrong with it.
func badNodes() map[string]api.Node {
	one := integer(1)
	ten := []api.Node{one, one, one, one, one, one, one, one, one, one}
	bad := map[string]api.Node{
		"no kind": {}, "kind 7": {Kind: 7}, "kind -1": {Kind: -1}, "greatest kind": {Kind: math.MaxInt}, "least kind": {Kind: math.MinInt},
		"Int -1": integer(-1), "least Int": integer(math.MinInt64), "Int with S": {Kind: api.Const, V: api.Value{Kind: api.Int, S: "x"}},
		"Bool 2": truth(2), "Bool -1": truth(-1), "Bool with S": {Kind: api.Const, V: api.Value{Kind: api.Bool, N: 1, S: "x"}},
		"Text too long": text(many("x", 201)), "Text with N": {Kind: api.Const, V: api.Value{Kind: api.Text, N: 1, S: "x"}},
		"Empty": {Kind: api.Const}, "Fault": {Kind: api.Const, V: api.Value{Kind: api.Fault, N: api.Div}}, "V of kind 5": {Kind: api.Const, V: api.Value{Kind: 5}},
		"Cell 0": cell(0, 1), "Cell col 0": cell(1, 0), "Cell row 1001": cell(1001, 1), "Cell col 51": cell(1, 51), "Cell with To": {Kind: api.Cell, R: area(1, 1, 1, 1).R}, "Cell with To's row": {Kind: api.Cell, R: area(1, 1, 1, 0).R}, "Cell with To's col": {Kind: api.Cell, R: area(1, 1, 0, 1).R},
		"Range turned rows": area(2, 1, 1, 1), "Range turned cols": area(1, 2, 1, 1), "Range too low": area(1, 1, 1001, 1), "Range too far": area(1, 1, 1, 51), "Range from 0": area(0, 1, 1, 1), "Range to none": area(1, 1, 0, 0),
		"Neg of none": {Kind: api.Neg}, "Neg of two": {Kind: api.Neg, Args: ten[:2]},
		"Binary of none": {Kind: api.Binary, Op: "+"}, "Binary of one": {Kind: api.Binary, Op: "+", Args: ten[:1]}, "Binary of three": {Kind: api.Binary, Op: "+", Args: ten[:3]},
		"Call of eleven": call("F", append(ten[:10:10], one)...),
	}
	for _, op := range []string{"", "=>", "==", "><", "!", "!=", "(", ")", ",", ":", "F", "++", "<>=", " +", "+ ", "A1", "\"", "1", "\xff", "&&", "**"} {
		bad["Binary "+op] = two(op, one, one)
	}
	for _, op := range []string{"", "f", "1F", "1", "F_", "F ", " F", "Fa", "aF", "ABCDEFGHI", "A 1", "F(", "+", "\"F\"", "F\x00", "\x00", "Ä", "É1", "F1.", many("A", 300), many("A", 301), "F G", "1 F"} {
		bad["Call "+op] = call(op, one)
	}
	for name, n := range map[string]api.Node{"Const": one, "Cell": cell(1, 1), "Range": area(1, 1, 2, 2), "Neg": neg(one)} {
		n.Op = "F"
		bad[name+" with Op"] = n
		n.Op = "+"
		bad[name+" with sign"] = n
	}
	for name, n := range map[string]api.Node{"Cell": cell(1, 1), "Range": area(1, 1, 2, 2), "Neg": neg(one), "Binary": two("+", one, one), "Call": call("F")} {
		n.V = api.Value{Kind: api.Int}
		bad[name+" with V's kind"] = n
		n.V = api.Value{N: 1}
		bad[name+" with V's N"] = n
		n.V = api.Value{S: "x"}
		bad[name+" with V's S"] = n
	}
	for name, n := range map[string]api.Node{"Const": one, "Neg": neg(one), "Binary": two("+", one, one), "Call": call("F")} {
		n.R = api.Rect{From: api.Addr{Row: 1, Col: 1}}
		bad[name+" with R"] = n
		n.R = api.Rect{To: api.Addr{Col: 1}}
		bad[name+" with R's To"] = n
	}
	for name, n := range map[string]api.Node{"Const": one, "Text": text("x"), "Bool": truth(1), "Cell": cell(1, 1), "Range": area(1, 1, 2, 2)} {
		n.Args = ten[:1]
		bad[name+" with Args"] = n
	}
	return bad
}

// P5.2: what is not good for each of the chapter's reasons, wherever it stands.
func TestBad(t *testing.T) {
	one := integer(1)
	for name, n := range badNodes() {
		for i, within := range []api.Node{n, neg(n), two("+", n, one), two("+", one, n), call("F", n), call("F", one, one, n), call("F", one, neg(two("^", n, one)), one)} {
			if Good(within) {
				t.Errorf("%s, %d: good", name, i)
			}
		}
		if !Same(n, n) || !Same(n, Copy(n)) || Depth(n) != levels(n) {
			t.Errorf("%s: Same, Copy or Depth", name)
		}
	}
}

// chain is a tree of so many nodes, each with one Arg.
func chain(nodes int) api.Node {
	n := integer(1)
	for range nodes - 1 {
		n = neg(n)
	}
	return n
}

// P5.2: a tree deeper than MaxDeep is not good; Depth is told of it.
func TestDepths(t *testing.T) {
	for _, depth := range []int{1, 2, 3, 15, 16, 17, 18, 100, 1999, 2000} {
		if n := chain(depth); Depth(n) != depth || Good(n) != (depth <= 16) {
			t.Error(depth, Depth(n), Good(n))
		}
	}
	for _, n := range []api.Node{{}, {Kind: 99}, cell(0, 0), call("F"), call("F", []api.Node{}...)} {
		if Depth(n) != 1 {
			t.Error(n, Depth(n))
		}
	}
	one := integer(1)
	for want, n := range map[int]api.Node{2: call("", one, one), 4: two("", chain(3), one), 5: two("", one, chain(4)), 7: call("F", one, chain(6), chain(5), one)} {
		if Depth(n) != want {
			t.Error(n, Depth(n))
		}
	}
	if n := two("+", chain(15), chain(15)); !Good(n) {
		t.Error("depth 16")
	}
	if n := two("+", one, chain(16)); Good(n) {
		t.Error("depth 17")
	}
}

// broad is a call of so many nodes.
func broad(nodes int) api.Node {
	args := make([]api.Node, nodes-1)
	for i := range args {
		args[i] = integer(int64(i))
	}
	return call("F", args...)
}

// leveled is a good tree (but for its size) of so many nodes.
func leveled(nodes int) api.Node {
	if nodes <= 10 {
		return chain(nodes)
	}
	var args []api.Node
	for left := nodes - 1; left > 0; {
		each := min(left, (nodes-1+9)/10)
		args = append(args, leveled(each))
		left -= each
	}
	return call("F", args...)
}

// P5.2: of trees of 2000 nodes all is told, of greater ones nothing.
func TestTreesOf2000Nodes(t *testing.T) {
	for name, made := range map[string]func(int) api.Node{"chain": chain, "broad": broad, "leveled": leveled} {
		for _, nodes := range []int{1999, 2000} {
			n := made(nodes)
			if Depth(n) != levels(n) || Depth(n) < 2 || !Same(n, made(nodes)) || !Same(n, Copy(n)) || !equal(n, Copy(n)) || Good(n) != (name == "leveled") {
				t.Error(name, nodes, Depth(n), Good(n))
			}
		}
		for _, nodes := range []int{2001, 2002, 5000, 300000} {
			n, small := made(nodes), made(10)
			if Depth(n) != 0 || Same(n, n) || Same(n, small) || Same(small, n) || Same(n, api.Node{}) || Same(api.Node{}, n) || !empty(Copy(n)) || Good(n) {
				t.Error(name, nodes)
			}
		}
	}
}

// P5.2: lists that hold themselves, or one list in many places, come to an end.
func TestTreesWithoutEnd(t *testing.T) {
	loop := make([]api.Node, 1)
	loop[0] = api.Node{Kind: api.Neg, Args: loop}
	pair := make([]api.Node, 2)
	pair[0], pair[1] = integer(1), two("+", integer(1), integer(2))
	pair[1].Args = pair
	doubled := integer(1)
	for range 100 {
		doubled = two("+", doubled, doubled)
	}
	for i, n := range []api.Node{loop[0], {Kind: api.Binary, Op: "+", Args: pair}, doubled} {
		if Good(n) || Depth(n) != 0 || Same(n, n) || Same(n, integer(1)) || Same(integer(1), n) || !empty(Copy(n)) {
			t.Error(i)
		}
	}
}

// P5.2: trees are the same just if all their fields are; nil and empty Args are one.
func TestSame(t *testing.T) {
	base := two("+", call("F", integer(1), text("x"), area(1, 2, 3, 4)), neg(cell(5, 6)))
	if !Same(base, two("+", call("F", integer(1), text("x"), area(1, 2, 3, 4)), neg(cell(5, 6)))) {
		t.Error("alike")
	}
	changes := []func(*api.Node){
		func(n *api.Node) { n.Kind++ }, func(n *api.Node) { n.V.Kind++ }, func(n *api.Node) { n.V.N++ }, func(n *api.Node) { n.V.S += "y" },
		func(n *api.Node) { n.R.From.Row++ }, func(n *api.Node) { n.R.From.Col++ }, func(n *api.Node) { n.R.To.Row++ }, func(n *api.Node) { n.R.To.Col++ },
		func(n *api.Node) { n.Op += "=" }, func(n *api.Node) { n.Args = append(n.Args, integer(9)) },
	}
	for i, change := range changes {
		for j, at := range []func(*api.Node) *api.Node{
			func(n *api.Node) *api.Node { return n },
			func(n *api.Node) *api.Node { return &n.Args[0] },
			func(n *api.Node) *api.Node { return &n.Args[1] },
			func(n *api.Node) *api.Node { return &n.Args[0].Args[0] },
			func(n *api.Node) *api.Node { return &n.Args[0].Args[1] },
			func(n *api.Node) *api.Node { return &n.Args[0].Args[2] },
			func(n *api.Node) *api.Node { return &n.Args[1].Args[0] },
		} {
			other := Copy(base)
			change(at(&other))
			if Same(base, other) || Same(other, base) || !Same(other, other) {
				t.Error(i, j)
			}
		}
	}
	short := Copy(base)
	short.Args = short.Args[:1]
	if Same(base, short) || Same(short, base) || Same(base, two("+", base.Args[1], base.Args[0])) {
		t.Error("other Args")
	}
	if !Same(call("F"), api.Node{Kind: api.Call, Op: "F", Args: []api.Node{}}) || !Same(api.Node{}, api.Node{}) {
		t.Error("nil and empty")
	}
}

// texts are the texts of n that are not empty.
func texts(n api.Node) []string {
	var l []string
	for _, s := range []string{n.V.S, n.Op} {
		if s != "" {
			l = append(l, s)
		}
	}
	for _, a := range n.Args {
		l = append(l, texts(a)...)
	}
	return l
}

// lists are the lists of n that have room.
func lists(n api.Node) [][]api.Node {
	var l [][]api.Node
	if cap(n.Args) > 0 {
		l = append(l, n.Args)
	}
	for _, a := range n.Args {
		l = append(l, lists(a)...)
	}
	return l
}

// apart tells whether trees share no memory, and no two lists or texts of one do.
func apart(trees ...api.Node) bool {
	seen := map[*api.Node]bool{}
	bytes := map[*byte]bool{}
	for _, n := range trees {
		for _, l := range lists(n) {
			for i := range l[:cap(l)] {
				at := &l[:cap(l)][i]
				if seen[at] {
					return false
				}
				seen[at] = true
			}
		}
		for _, s := range texts(n) {
			for i := range len(s) {
				at := (*byte)(unsafe.Add(unsafe.Pointer(unsafe.StringData(s)), i))
				if bytes[at] {
					return false
				}
				bytes[at] = true
			}
		}
	}
	return true
}

// P5.2: a copy has all that the tree has, and is new memory; what is handed in stays as it is.
func TestCopy(t *testing.T) {
	spare := make([]api.Node, 2, 5)
	spare[0], spare[1] = text("x"), call("G", text("long text"), integer(2))
	shared := []api.Node{text("y")}
	n := api.Node{Kind: 77, V: api.Value{Kind: 9, N: -3, S: "v"}, R: api.Rect{From: api.Addr{Row: -1, Col: 2}, To: api.Addr{Row: 3, Col: -4}}, Op: "op", Args: append(spare, api.Node{Args: shared}, api.Node{Args: shared})}
	spare[:5][4] = cell(9, 9)
	before := Copy(n)
	c, d := Copy(n), Copy(n)
	if !equal(c, n) || !equal(d, n) || !Same(c, n) || !apart(n.Args[0], c, d) || !apart(c, n.Args[1]) {
		t.Error("copy", c)
	}
	for _, l := range lists(c) {
		for i := range l[:cap(l)] {
			l[:cap(l)][i] = api.Node{Kind: 5}
		}
	}
	if !equal(n, before) || !equal(d, before) || !equal(spare[:5][4], cell(9, 9)) {
		t.Error("changed by way of its copy", n)
	}
	if !empty(Copy(api.Node{})) || !equal(Copy(call("F", []api.Node{}...)), call("F")) {
		t.Error("without Args")
	}
}

// P5.1: what is told shares no memory with what was handed in, nor with another answer.
func TestParseIsNewMemory(t *testing.T) {
	s := strings.Clone(`F("x",a1&"long text",-g(1=2))+H("y")^K()`)
	before := strings.Clone(s)
	a, _, _ := Parse(s)
	b, _, _ := Parse(s)
	if !equal(a, b) || empty(a) || !apart(a, b, api.Node{Op: s}) || s != before {
		t.Error(a, b)
	}
}
