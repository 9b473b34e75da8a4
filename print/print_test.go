package print

import (
	"math"
	"math/rand"
	"slices"
	"strings"
	"testing"
	"unsafe"

	"pannier/api"
	"pannier/lex"
	"pannier/num"
	"pannier/tree"
)

func integer(n int64) api.Node {
	return api.Node{Kind: api.Const, V: api.Value{Kind: api.Int, N: n}}
}

func text(s string) api.Node {
	return api.Node{Kind: api.Const, V: api.Value{Kind: api.Text, S: s}}
}

func truth(n int64) api.Node {
	return api.Node{Kind: api.Const, V: api.Value{Kind: api.Bool, N: n}}
}

func cell(row, col int) api.Node {
	return api.Node{Kind: api.Cell, R: api.Rect{From: api.Addr{Row: row, Col: col}}}
}

func area(row, col, row2, col2 int) api.Node {
	return api.Node{Kind: api.Range, R: api.Rect{From: api.Addr{Row: row, Col: col}, To: api.Addr{Row: row2, Col: col2}}}
}

func neg(n api.Node) api.Node { return api.Node{Kind: api.Neg, Args: []api.Node{n}} }

func two(op string, a, b api.Node) api.Node {
	return api.Node{Kind: api.Binary, Op: op, Args: []api.Node{a, b}}
}

func call(op string, args ...api.Node) api.Node {
	return api.Node{Kind: api.Call, Op: op, Args: args}
}

// many is s so many times.
func many(s string, n int) string { return strings.Repeat(s, n) }

// tells holds Text of n against what it must answer.
func tells(t *testing.T, n api.Node, want string) {
	t.Helper()
	if s, err := Text(n); s != want || err != api.OK {
		t.Errorf("Text(%.200v): %.80q %v, not %.80q", n, s, err, want)
	}
}

// refuses holds Text of n against the error that it must answer.
func refuses(t *testing.T, name string, n api.Node, want api.Errno) {
	t.Helper()
	if s, err := Text(n); s != "" || err != want {
		t.Errorf("%s: %.80q %v, not %v", name, s, err, want)
	}
}

// signRows are the signs between two, each at its row; there is none at 0.
func signRows() [][]string {
	return [][]string{nil, {"=", "<>", "<", "<=", ">", ">="}, {"+", "-", "&"}, {"*", "/", "%"}, {"^"}}
}

// nodesOfRows are trees, each at its row, and their texts.
func nodesOfRows() []map[string]api.Node {
	nodes := []map[string]api.Node{{}, {}, {}, {}, {}, {"-3": neg(integer(3)), "--A1": neg(neg(cell(1, 1))), `-("x"&2)`: neg(two("&", text("x"), integer(2)))}, {
		"0": integer(0), `"x"`: text("x"), "TRUE": truth(1), "B7": cell(7, 2), "A1:C2": area(1, 1, 2, 3), "F()": call("F"), "F(1=2)": call("F", two("=", integer(1), integer(2))),
	}}
	for row, signs := range signRows() {
		for _, s := range signs {
			nodes[row]["4"+s+"D5"] = two(s, integer(4), cell(5, 4))
		}
	}
	return nodes
}

// P6.1: what has no Args beside signs.
func TestParts(t *testing.T) {
	for want, n := range map[string]api.Node{
		"0": integer(0), "7": integer(7), "10": integer(10), "9223372036854775807": integer(math.MaxInt64),
		"TRUE": truth(1), "FALSE": truth(0),
		`""`: text(""), `"a"`: text("a"), `"aB 1"`: text("aB 1"), `""""`: text(`"`), `""""""`: text(`""`), `"a""b"`: text(`a"b`), `"""a"`: text(`"a`), `"a"""`: text(`a"`), `"12"`: text("12"), `"TRUE"`: text("TRUE"), `"A1"`: text("A1"), `"(,)"`: text("(,)"), "\"\x00\xff\n\"": text("\x00\xff\n"), `"ä"`: text("ä"),
		"A1": cell(1, 1), "Z1000": cell(1000, 26), "AA3": cell(3, 27), "AX1000": cell(1000, 50), "B10": cell(10, 2),
		"A1:A1": area(1, 1, 1, 1), "C3:C3": area(3, 3, 3, 3), "A1:B4": area(1, 1, 4, 2), "A1:AX1000": area(1, 1, 1000, 50), "Z9:AA10": area(9, 26, 10, 27),
	} {
		tells(t, n, want)
		tells(t, neg(n), "-"+want)
		tells(t, neg(neg(n)), "--"+want)
		tells(t, call("G", n), "G("+want+")")
		for _, signs := range signRows() {
			for _, s := range signs {
				tells(t, two(s, n, n), want+s+want)
			}
		}
	}
}

// P6.1: a call has its Args as they are, whatever their row, a , between two.
func TestCalls(t *testing.T) {
	for _, op := range []string{"F", "SUM", "ABCDEFGH", "A1", "TRUE", "F8", "Z9999999"} {
		var args []api.Node
		var texts []string
		for k := range api.MaxArgs + 1 {
			tells(t, call(op, args...), op+"("+strings.Join(texts, ",")+")")
			args, texts = append(args, integer(int64(k))), append(texts, num.Dec(int64(k)))
		}
		refuses(t, "eleven Args", call(op, args...), api.ErrForm)
	}
	tells(t, api.Node{Kind: api.Call, Op: "F", Args: []api.Node{}}, "F()")
	for _, nodes := range nodesOfRows() {
		for s, n := range nodes {
			tells(t, call("F", n), "F("+s+")")
			tells(t, call("F", n, n, n), "F("+s+","+s+","+s+")")
			tells(t, call("F", integer(1), call("G", n)), "F(1,G("+s+"))")
			tells(t, neg(call("F", n)), "-F("+s+")")
		}
	}
}

// closedIf is s, with parentheses about it, if it is so.
func closedIf(s string, so bool) string {
	if so {
		return "(" + s + ")"
	}
	return s
}

// P6.1: an Arg beside a sign has parentheses just if its row is below the one that the chapter tells.
func TestRowsBesideRows(t *testing.T) {
	first := []int{0, 2, 2, 3, 5}
	second := []int{0, 2, 3, 4, 4}
	nodes := nodesOfRows()
	for row, signs := range signRows() {
		for _, sign := range signs {
			for left := 1; left <= 6; left++ {
				for right := 1; right <= 6; right++ {
					for s, n := range nodes[left] {
						for s2, n2 := range nodes[right] {
							tells(t, two(sign, n, n2), closedIf(s, left < first[row])+sign+closedIf(s2, right < second[row]))
						}
					}
				}
			}
		}
	}
}

// P6.1: Neg of each row.
func TestNegs(t *testing.T) {
	for row, nodes := range nodesOfRows() {
		for s, n := range nodes {
			negated := "-" + closedIf(s, row < 5)
			tells(t, neg(n), negated)
			tells(t, neg(neg(n)), "-"+negated)
			tells(t, two("^", neg(n), neg(n)), negated+"^"+negated)
			tells(t, two("-", neg(n), neg(n)), negated+"-"+negated)
			tells(t, neg(two("^", neg(n), neg(n))), "-("+negated+"^"+negated+")")
		}
	}
}

// P6.1: formulas of several rows, the chapter's examples among them.
func TestFormulas(t *testing.T) {
	one, b, c := integer(1), cell(2, 2), truth(1)
	for want, n := range map[string]api.Node{
		"(1+B2)*TRUE":         two("*", two("+", one, b), c),
		"1+B2*TRUE":           two("+", one, two("*", b, c)),
		"-(1^B2)":             neg(two("^", one, b)),
		"-1^B2":               two("^", neg(one), b),
		"1^B2^TRUE^1":         two("^", one, two("^", b, two("^", c, one))),
		"((1^B2)^TRUE)^1":     two("^", two("^", two("^", one, b), c), one),
		"1-B2-TRUE":           two("-", two("-", one, b), c),
		"1-(B2-TRUE)":         two("-", one, two("-", b, c)),
		"1-(B2-(TRUE-1))":     two("-", one, two("-", b, two("-", c, one))),
		"((1=B2)<TRUE)>=1":    two(">=", two("<", two("=", one, b), c), one),
		"1^(B2^TRUE*1)":       two("^", one, two("*", two("^", b, c), one)),
		"1^(B2*TRUE^1)":       two("^", one, two("*", b, two("^", c, one))),
		"-((1=B2)+TRUE)":      neg(two("+", two("=", one, b), c)),
		"1+B2*TRUE^-1=B2&1":   two("=", two("+", one, two("*", b, two("^", c, neg(one)))), two("&", b, one)),
		"IF(1<B2,TRUE,-1)":    call("IF", two("<", one, b), c, neg(one)),
		"F(G(),H(1,B2))%TRUE": two("%", call("F", call("G"), call("H", one, b)), c),
	} {
		tells(t, n, want)
	}
}

// P6.1: a Kind or a sign that there is not is of no row; nothing but those two is looked at.
func TestRow(t *testing.T) {
	for row, signs := range signRows() {
		for _, s := range signs {
			for _, n := range []api.Node{{Kind: api.Binary, Op: s}, two(s, integer(1), integer(2)), two(s, api.Node{}, neg(api.Node{})), {Kind: api.Binary, Op: s, V: api.Value{Kind: 9}, R: api.Rect{To: api.Addr{Row: -1}}, Args: make([]api.Node, 3)}} {
				if got := Row(n); got != row {
					t.Errorf("Row(%v): %d, not %d", n, got, row)
				}
			}
		}
	}
	for _, op := range []string{"", "=>", "==", "><", "<>=", "!", "(", ")", ",", ":", "F", "A1", "SUM", "++", "**", "^^", " +", "+ ", "+-", "\x00", "\xff", "-\x00", many("+", 1<<20)} {
		if got := Row(two(op, integer(1), integer(2))); got != 0 {
			t.Errorf("Row of %.20q: %d", op, got)
		}
	}
	for _, op := range []string{"", "+", "=", "^", "*", "F", "=>", "\xff"} {
		for kind, want := range map[int]int{api.Const: 6, api.Cell: 6, api.Range: 6, api.Call: 6, api.Neg: 5, 0: 0, 7: 0, 8: 0, -1: 0, -5: 0, 256 + api.Const: 0, 1<<32 + api.Neg: 0, 1<<32 + api.Binary: 0, math.MaxInt: 0, math.MinInt: 0} {
			for _, args := range [][]api.Node{nil, {integer(1)}, {integer(1), integer(2)}} {
				if got := Row(api.Node{Kind: kind, Op: op, Args: args}); got != want {
					t.Errorf("Row of kind %d, Op %q: %d, not %d", kind, op, got, want)
				}
			}
		}
	}
}

// padded is a call of n, whose text is s, and of a long text, so that its own text has so many bytes.
func padded(n api.Node, s string, bytes int) (api.Node, string) {
	x := many("x", 190)
	y := many("y", bytes-len(s)-len(x)-len(`F("","",)`))
	return call("F", text(x), n, text(y)), `F("` + x + `",` + s + `,"` + y + `")`
}

// P6.1: a text of MaxSrc bytes is told, a longer one is ErrLong; it is all of the text's own bytes that count.
func TestLengths(t *testing.T) {
	for row, nodes := range nodesOfRows() {
		for s, n := range nodes {
			for negs, n := range []api.Node{n, neg(n), neg(neg(n))} {
				s := s
				if negs > 0 {
					s = many("-", negs) + closedIf(s, row < 5)
				}
				for _, bytes := range []int{299, 300} {
					most, want := padded(n, s, bytes)
					tells(t, most, want)
				}
				for _, bytes := range []int{301, 302} {
					over, _ := padded(n, s, bytes)
					refuses(t, s, over, api.ErrLong)
				}
			}
		}
	}
	tells(t, text(many(`"`, 149)), many(`"`, 300))
	tells(t, text(many(`"`, 98)+many("x", 102)), `"`+many(`""`, 98)+many("x", 102)+`"`)
	tells(t, call("F", text(many(`"`, 147))), "F("+many(`"`, 296)+")")
	tells(t, two("&", text(many("\xff", 195)), text(many("\u00e9", 50))), `"`+many("\xff", 195)+`"&"`+many("\u00e9", 50)+`"`)
	refuses(t, "150 quotes", text(many(`"`, 150)), api.ErrLong)
	refuses(t, "200 quotes", text(many(`"`, 200)), api.ErrLong)
	refuses(t, "99 quotes", text(many(`"`, 99)+many("x", 101)), api.ErrLong)
	refuses(t, "runes", two("&", text(many("\xff", 196)), text(many("\u00e9", 50))), api.ErrLong)
}

// badNodes are nodes that are not good by a field of their own; each is told with what is wrong with it.
func badNodes() map[string]api.Node {
	one := integer(1)
	pair := []api.Node{one, one}
	bad := map[string]api.Node{
		"no Kind": {}, "Kind 7": {Kind: 7}, "Kind -1": {Kind: -1}, "greatest Kind": {Kind: math.MaxInt}, "Kind 7 with Args": {Kind: 7, Op: "F", Args: pair},
		"Int -1": integer(-1), "least Int": integer(math.MinInt64), "Int with S": {Kind: api.Const, V: api.Value{Kind: api.Int, S: "x"}},
		"Bool 2": truth(2), "Bool -1": truth(-1), "Bool with S": {Kind: api.Const, V: api.Value{Kind: api.Bool, S: "x"}},
		"Text too long": text(many("x", 201)), "Text much too long": text(many("x", 1<<20)), "Text with N": {Kind: api.Const, V: api.Value{Kind: api.Text, N: 1, S: "x"}},
		"Empty": {Kind: api.Const}, "Fault": {Kind: api.Const, V: api.Value{Kind: api.Fault, N: api.Div}}, "V of Kind 5": {Kind: api.Const, V: api.Value{Kind: 5}},
		"Cell row 0": cell(0, 1), "Cell col 0": cell(1, 0), "Cell row 1001": cell(1001, 1), "Cell col 51": cell(1, 51), "Cell with To": {Kind: api.Cell, R: area(1, 1, 1, 1).R}, "Cell with To's row": {Kind: api.Cell, R: area(1, 1, 1, 0).R},
		"Range turned rows": area(2, 1, 1, 1), "Range turned cols": area(1, 2, 1, 1), "Range too low": area(1, 1, 1001, 1), "Range too far": area(1, 1, 1, 51), "Range from 0": area(0, 1, 1, 1), "Range to none": area(1, 1, 0, 0),
		"Neg of none": {Kind: api.Neg}, "Neg of two": {Kind: api.Neg, Args: pair},
		"Binary of none": {Kind: api.Binary, Op: "+"}, "Binary of one": {Kind: api.Binary, Op: "+", Args: pair[:1]}, "Binary of three": {Kind: api.Binary, Op: "+", Args: []api.Node{one, one, one}},
		"Call of eleven": call("F", one, one, one, one, one, one, one, one, one, one, one),
	}
	for _, op := range []string{"", "=>", "==", "!", "(", ",", ":", "F", "++", " +"} {
		bad["Binary "+op] = two(op, one, one)
	}
	for _, op := range []string{"", "f", "1F", "1", "F_", "F ", "Fa", "ABCDEFGHI", "+", "F\x00", "\u00c4", many("A", 301)} {
		bad["Call "+op] = call(op, one)
	}
	good := map[string]api.Node{"Const": one, "Text": text("x"), "Cell": cell(1, 1), "Range": area(1, 1, 2, 2), "Neg": neg(one), "Binary": two("+", one, one), "Call": call("F")}
	for name, n := range good {
		if kind := n.Kind; kind != api.Binary && kind != api.Call {
			n.Op = "+"
			bad[name+" with Op"] = n
			n.Op = ""
		}
		if n.Kind != api.Const {
			n.V.N = 1
			bad[name+" with V"] = n
			n.V.N = 0
		}
		if n.Kind != api.Cell && n.Kind != api.Range {
			n.R.From = api.Addr{Row: 1, Col: 1}
			bad[name+" with R"] = n
			n.R.From = api.Addr{}
		}
		if len(n.Args) == 0 && n.Kind != api.Call {
			n.Args = pair[:1]
			bad[name+" with Args"] = n
		}
	}
	return bad
}

// P6.1: what is not good for each of the fifth chapter's reasons, wherever it stands; be it too long as well.
func TestBad(t *testing.T) {
	one, long := integer(1), text(many(`"`, 200))
	for name, n := range badNodes() {
		for _, within := range []api.Node{n, neg(n), two("+", n, one), two("^", one, n), call("F", n), call("F", one, one, n), call("F", one, neg(two("=", n, one)), one), two("&", long, n), call("F", long, long, n)} {
			refuses(t, name, within, api.ErrForm)
		}
	}
}

// chain is a tree of so many nodes, each with one Arg.
func chain(nodes int) api.Node {
	n := integer(1)
	for range nodes - 1 {
		n = neg(n)
	}
	return n
}

// P6.1: a tree of depth MaxDeep is told, one deeper is not good.
func TestDepths(t *testing.T) {
	for depth := 1; depth <= 20; depth++ {
		name := num.Dec(int64(depth))
		if depth > api.MaxDeep {
			refuses(t, name, chain(depth), api.ErrForm)
			refuses(t, name, two("+", integer(1), chain(depth-1)), api.ErrForm)
			continue
		}
		tells(t, chain(depth), many("-", depth-1)+"1")
		tells(t, call("F", chain(depth-1), integer(1)), "F("+many("-", max(0, depth-2))+"1,1)")
	}
	refuses(t, "100", chain(100), api.ErrForm)
	refuses(t, "2001", chain(2001), api.ErrForm)
	refuses(t, "300000", chain(300000), api.ErrForm)
}

// leveled is a tree of so many nodes, good but for its number of them.
func leveled(nodes int) api.Node {
	if nodes <= api.MaxArgs {
		return chain(nodes)
	}
	var args []api.Node
	for left := nodes - 1; left > 0; {
		each := min(left, (nodes+8)/10)
		args = append(args, leveled(each))
		left -= each
	}
	return call("F", args...)
}

// P6.1: a tree of 2000 nodes is looked at (and is too long), one of more is not good; so is one without an end.
func TestTreesOfManyNodes(t *testing.T) {
	for _, nodes := range []int{400, 1999, 2000} {
		refuses(t, num.Dec(int64(nodes)), leveled(nodes), api.ErrLong)
	}
	for _, nodes := range []int{2001, 2002, 5000, 300000} {
		refuses(t, num.Dec(int64(nodes)), leveled(nodes), api.ErrForm)
	}
	loop := make([]api.Node, 1)
	loop[0] = neg(api.Node{})
	loop[0].Args = loop
	refuses(t, "loop", loop[0], api.ErrForm)
	doubled, sixteen := integer(1), api.Node{}
	for depth := 1; depth <= 100; depth++ {
		if depth == api.MaxDeep {
			sixteen = doubled
		}
		doubled = two("+", doubled, doubled)
	}
	refuses(t, "doubled", doubled, api.ErrForm)
	refuses(t, "doubled to depth 16", sixteen, api.ErrForm)
	wide := make([]api.Node, 1<<20)
	refuses(t, "wide", call("F", wide...), api.ErrForm)
}

// withoutPair tells the text that tokens are, without two of them.
func withoutPair(tokens []api.Token, from, to int) string {
	var s strings.Builder
	for i, token := range tokens {
		switch {
		case i == from || i == to:
		case token.Kind == api.TkInt:
			s.WriteString(num.Dec(token.N))
		case token.Kind == api.TkText:
			s.WriteString(lex.Quote(token.S))
		default:
			s.WriteString(token.S)
		}
	}
	return s.String()
}

// pairs are the places of the parentheses that are no call's.
func pairs(tokens []api.Token) [][2]int {
	var found [][2]int
	var open []int
	for i, token := range tokens {
		if token.Kind == api.TkSign && token.S == "(" {
			open = append(open, i)
		}
		if token.Kind == api.TkSign && token.S == ")" {
			from := open[len(open)-1]
			open = open[:len(open)-1]
			if from == 0 || tokens[from-1].Kind != api.TkName {
				found = append(found, [2]int{from, i})
			}
		}
	}
	return found
}

// thereAndBack holds Text of the good tree n against Parse: it makes n of it again, there is nothing in it but tokens as they are told, and no pair of parentheses could be let go.
func thereAndBack(t *testing.T, n api.Node) {
	t.Helper()
	s, err := Text(n)
	m, at, parseErr := tree.Parse(s)
	if err != api.OK || parseErr != api.OK || !tree.Same(m, n) {
		t.Fatalf("Text(%v): %q %v, of which Parse makes %v %d %v", n, s, err, m, at, parseErr)
	}
	tokens, _, _ := lex.Cut(s)
	if plain := withoutPair(tokens, -1, -1); plain != s {
		t.Fatalf("%q, not %q", s, plain)
	}
	for _, pair := range pairs(tokens) {
		less := withoutPair(tokens, pair[0], pair[1])
		if m, _, err := tree.Parse(less); err == api.OK && tree.Same(m, n) {
			t.Fatalf("%q, though %q is enough", s, less)
		}
	}
}

// P6.1, P6.2: all trees of up to four nodes that have Args, with a sign or two of each row.
func TestAllSmallTrees(t *testing.T) {
	signs := []string{"=", ">=", "+", "-", "*", "^"}
	made := [][]api.Node{{integer(7)}}
	for size := 1; size <= 4; size++ {
		var l []api.Node
		for _, n := range made[size-1] {
			l = append(l, neg(n), call("F", n))
		}
		for left := range size {
			for _, a := range made[left] {
				for _, b := range made[size-1-left] {
					for _, s := range signs {
						l = append(l, two(s, a, b))
					}
				}
			}
		}
		made = append(made, l)
	}
	for _, l := range made {
		for _, n := range l {
			thereAndBack(t, n)
		}
	}
}

// grown is a good tree of that depth at most.
func grown(r *rand.Rand, depth int) api.Node {
	leaves := []api.Node{integer(0), integer(r.Int63()), text(`a"b`), text(""), text("1+(2"), truth(0), truth(1), cell(1000, 50), cell(1, 1+r.Intn(50)), area(1, 1, 1, 1), area(2, 3, 2+r.Intn(900), 3+r.Intn(40)), call("G")}
	if depth == 1 {
		return leaves[r.Intn(len(leaves))]
	}
	switch r.Intn(8) {
	case 0:
		return leaves[r.Intn(len(leaves))]
	case 1, 2:
		return neg(grown(r, depth-1))
	case 3:
		var args []api.Node
		for range r.Intn(4) {
			args = append(args, grown(r, depth-1))
		}
		return call("SUM", args...)
	}
	signs := slices.Concat(signRows()...)
	other := 1 + r.Intn(min(depth-1, 3))
	a, b := grown(r, depth-1), grown(r, other)
	if r.Intn(2) == 0 {
		a, b = b, a
	}
	return two(signs[r.Intn(len(signs))], a, b)
}

// P6.1, P6.2: trees up to the greatest depth, at random, but the same ones each time; what is too long for a source is no more than that.
func TestGrownTrees(t *testing.T) {
	r := rand.New(rand.NewSource(6))
	told, deepest := 0, 0
	for i := range 40000 {
		n := grown(r, 1+i%api.MaxDeep)
		if _, err := Text(n); err == api.ErrLong {
			continue
		}
		thereAndBack(t, n)
		told++
		deepest = max(deepest, tree.Depth(n))
	}
	if told < 20000 || deepest < api.MaxDeep {
		t.Error(told, deepest)
	}
}

// P6.2: trees with as much nesting as good ones can have are parsed again.
func TestMostNested(t *testing.T) {
	for _, wrap := range []func(api.Node) api.Node{
		func(n api.Node) api.Node { return neg(two("^", integer(1), n)) },
		func(n api.Node) api.Node { return neg(two("+", integer(1), n)) },
		func(n api.Node) api.Node { return two("^", integer(1), two("=", integer(2), n)) },
		func(n api.Node) api.Node { return two("^", two("=", n, integer(2)), integer(1)) },
		func(n api.Node) api.Node { return call("F", integer(1), neg(n)) },
	} {
		n := integer(3)
		for tree.Depth(n) < api.MaxDeep-1 { // each adds two
			n = wrap(n)
		}
		thereAndBack(t, n)
		thereAndBack(t, neg(n))
	}
}

// P6.2: what Text tells of a tree that Parse made is parsed to the same tree, and is no longer than what it was made of.
func TestParsedFormulas(t *testing.T) {
	r := rand.New(rand.NewSource(7))
	parts := []string{"1", "007", " a1", `"x""" `, "false", "b20:A1", "f()", "sum(1 ,2=3)", "-1", "- - 2", "(2)", "((1+2))"}
	signs := []string{"=", " <>", "<=", "+", "-", " & ", "*", "/", "%", "^"}
	opens := []string{"(", "-", "(-(", "1^", "F(", "f(1, ", "1+", "2 *", "-(", "(A1<"}
	parsed := 0
	for range 30000 {
		var s strings.Builder
		open := 0
		for range r.Intn(25) {
			if r.Intn(3) == 0 {
				o := opens[r.Intn(len(opens))]
				open += strings.Count(o, "(")
				s.WriteString(o)
				continue
			}
			s.WriteString(parts[r.Intn(len(parts))])
			for open > 0 && r.Intn(2) == 0 {
				s.WriteString(")")
				open--
			}
			s.WriteString(signs[r.Intn(len(signs))])
		}
		s.WriteString("9" + many(")", open))
		n, _, err := tree.Parse(s.String())
		if err != api.OK {
			continue
		}
		parsed++
		thereAndBack(t, n)
		if told, _ := Text(n); len(told) > s.Len() {
			t.Fatalf("%q of %q", told, s.String())
		}
	}
	if parsed < 5000 {
		t.Error(parsed)
	}
}

// shared tells whether two of the texts, none of which is empty, share a byte of memory.
func shared(texts ...string) bool {
	for i, a := range texts {
		for _, b := range texts[:i] {
			from, from2 := uintptr(unsafe.Pointer(unsafe.StringData(a))), uintptr(unsafe.Pointer(unsafe.StringData(b)))
			if from < from2+uintptr(len(b)) && from2 < from+uintptr(len(a)) {
				return true
			}
		}
	}
	return false
}

// P6.1: what is told is new memory, and what is handed in stays as it is.
func TestNewMemory(t *testing.T) {
	for _, nodes := range nodesOfRows() {
		for want, n := range nodes {
			n = call("F", n, neg(n))
			before := tree.Copy(n)
			spare := append(make([]api.Node, 0, 5), n.Args...)
			n.Args = spare
			first, _ := Text(n)
			second, _ := Text(n)
			if first == "" || first != second || shared(first, second, n.Op, want) || !tree.Same(n, before) {
				t.Error(first, second, want)
			}
			for _, left := range spare[2:5] {
				if !tree.Same(left, api.Node{}) {
					t.Error("spare room", left)
				}
			}
		}
	}
	for want, n := range map[string]api.Node{"5": integer(5), "42": integer(42), "TRUE": truth(1), "A1": cell(1, 1), `"x"`: text("x"), "F()": call("F")} {
		first, _ := Text(n)
		second, _ := Text(n)
		if first != want || second != want || shared(first, second, want) || n.V.S != "" && shared(first, n.V.S) {
			t.Error(first, second)
		}
	}
}
