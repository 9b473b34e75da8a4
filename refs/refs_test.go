package refs

import (
	"cmp"
	"maps"
	"math"
	"math/rand"
	"slices"
	"strings"
	"testing"

	"pannier/addr"
	"pannier/api"
	"pannier/tree"
)

func at(row, col int) api.Addr { return api.Addr{Row: row, Col: col} }

func rect(top, left, bottom, right int) api.Rect {
	return api.Rect{From: at(top, left), To: at(bottom, right)}
}

// list is the rectangles of the cells' names in s: "A1:A1 B2:C3".
func list(t *testing.T, s string) []api.Rect {
	t.Helper()
	var l []api.Rect
	for _, name := range strings.Fields(s) {
		first, last, _ := strings.Cut(name, ":")
		from, ok := addr.Parse(first)
		to, fine := addr.Parse(last)
		if !ok || !fine {
			t.Fatal(name)
		}
		l = append(l, api.Rect{From: from, To: to})
	}
	return l
}

// show is l as list takes it.
func show(l []api.Rect) string {
	var names []string
	for _, r := range l {
		names = append(names, addr.Name(r.From)+":"+addr.Name(r.To))
	}
	return strings.Join(names, " ")
}

func parsed(t *testing.T, s string) api.Node {
	t.Helper()
	n, at, err := tree.Parse(s)
	if err != api.OK {
		t.Fatalf("%q: %d %v", s, at, err)
	}
	return n
}

func one(n int64) api.Node { return api.Node{Kind: api.Const, V: api.Value{Kind: api.Int, N: n}} }

func cell(row, col int) api.Node {
	return api.Node{Kind: api.Cell, R: api.Rect{From: at(row, col)}}
}

func stretch(r api.Rect) api.Node { return api.Node{Kind: api.Range, R: r} }

func neg(n api.Node) api.Node { return api.Node{Kind: api.Neg, Args: []api.Node{n}} }

func sum(a, b api.Node) api.Node {
	return api.Node{Kind: api.Binary, Op: "+", Args: []api.Node{a, b}}
}

func call(args ...api.Node) api.Node { return api.Node{Kind: api.Call, Op: "F", Args: args} }

// refers holds Of of n against the rectangles that it must tell.
func refers(t *testing.T, name string, n api.Node, want string) {
	t.Helper()
	if got := Of(n); show(got) != want {
		t.Errorf("%s: %s, not %s", name, show(got), want)
	}
}

// P8.1: Cells and Ranges in each kind of node, and trees that name nothing.
func TestOf(t *testing.T) {
	for s, want := range map[string]string{
		"1": "", "1+2": "", `"A1"`: "", `"A1:B2"&"C3"`: "", "TRUE": "", "F()": "", `F(1,"A1",-2,FALSE)`: "", "-(1=2)": "", "A1(1)": "",
		"A1": "A1:A1", "a1": "A1:A1", "((A1))": "A1:A1", "A1:A1": "A1:A1", "A1:B2": "A1:B2", "B2:A1": "A1:B2", "A2:B1": "A1:B2", "b1:a2": "A1:B2", "C7:C3": "C3:C7", "D4:A4": "A4:D4",
		"-A1": "A1:A1", "--B2": "B2:B2", "-A1:B2": "A1:B2", "-(1+C3)": "C3:C3", "-F(D4)": "D4:D4",
		"A1+B1": "A1:A1 B1:B1", "A1+1": "A1:A1", "1+A1": "A1:A1", "A1:B2&\"x\"": "A1:B2", "(A1+B1)*(C1-D1)^E1": "A1:A1 B1:B1 C1:C1 D1:D1 E1:E1",
		"F(A1)": "A1:A1", "F(A1:B2)": "A1:B2", "F(1,A1)": "A1:A1", "F(A1,1)": "A1:A1", "F(G(H(A1:C3)))": "A1:C3", "A1(B1)": "B1:B1",
		"F(A1,B1,C1,D1,E1,F1,G1,H1,I1,J1)": "A1:A1 B1:B1 C1:C1 D1:D1 E1:E1 F1:F1 G1:G1 H1:H1 I1:I1 J1:J1", "IF(TRUE,1,-B7)": "B7:B7",
		"IF(A1=1,SUM(B2:C3,-D4),MAX(E5,MIN(F6:G7)))&H8": "A1:A1 B2:C3 D4:D4 E5:E5 F6:G7 H8:H8",
		"AX1000": "AX1000:AX1000", "A1:AX1000": "A1:AX1000", "AX1000:A1": "A1:AX1000", "AX1+A1000": "AX1:AX1 A1000:A1000", "AX1000:AX1000": "AX1000:AX1000",
	} {
		refers(t, s, parsed(t, s), want)
	}
	for _, sign := range []string{"=", "<>", "<", "<=", ">", ">=", "+", "-", "&", "*", "/", "%", "^"} {
		refers(t, sign, parsed(t, "C3:D4"+sign+"A1"), "A1:A1 C3:D4")
	}
}

// P8.1: what is named more than once is told once.
func TestOfEachOnce(t *testing.T) {
	for s, want := range map[string]string{
		"A1+A1": "A1:A1", "A1+B1+A1": "A1:A1 B1:B1", "F(A1,A1,A1,A1,A1,A1,A1,A1,A1,A1)": "A1:A1", "A1+F(-A1,G(A1))": "A1:A1",
		"A1+A1:A1": "A1:A1", "A1:A1+A1": "A1:A1", "A1:A1+A1:A1": "A1:A1", "AX1000:AX1000+AX1000": "AX1000:AX1000", "A1+A1:A1+A1+A2:A2+A2": "A1:A1 A2:A2",
		"A1:B2+A1:B2": "A1:B2", "A1:B2+B2:A1+A2:B1+B1:A2": "A1:B2", "C3+A1:B2+C3+B2:A1": "A1:B2 C3:C3",
		"A1+SUM(A1:B2)+A1":  "A1:A1 A1:B2",
		"A1:B2+A1+B1+A2+B2": "A1:A1 A1:B2 B1:B1 A2:A2 B2:B2", // a cell in a range, and the range
	} {
		refers(t, s, parsed(t, s), want)
	}
	if n := Cells(Of(parsed(t, "A1+SUM(A1:B2)+A1"))); n != 4 {
		t.Error(n)
	}
}

// P8.1: by From's row, then its column, then To's row, then its column, wherever in the tree they stand.
func TestOfOrder(t *testing.T) {
	for _, want := range []string{
		"A1:A1 B1:B1 A2:A2 B2:B2", "A1:A1 A2:A2 A3:A3 A10:A10 A100:A100", "Z1:Z1 AA1:AA1 AB1:AB1", "AX1:AX1 A2:A2", "B9:B9 A10:A10",
		"A1:A1 A1:B1 A1:A2 A1:B2", "A1:B2 A1:C2 A1:B3", "A1:AX1 A1:A2 A1:A1000 A1:AX1000", "C3:C3 C3:AX3 C3:C4",
		"A1:AX1000 B1:B1", "A1:A1000 B1:C1 A2:A2", "B1:C9 C1:C1 A2:B2", "A1:A1 A1:B2 B1:C1 B1:B2 A2:A2 A2:A3",
	} {
		l := list(t, want)
		var nodes []api.Node
		for _, r := range l {
			if n := stretch(r); r.From != r.To {
				nodes = append(nodes, n)
			} else {
				nodes = append(nodes, cell(r.From.Row, r.From.Col))
			}
		}
		r := rand.New(rand.NewSource(1))
		for range 200 {
			refers(t, want, call(nodes...), want)
			refers(t, want, sum(call(nodes[1:]...), neg(nodes[0])), want)
			refers(t, want, call(append(slices.Clone(nodes), nodes...)[:min(10, 2*len(nodes))]...), want)
			r.Shuffle(len(nodes), func(i, k int) { nodes[i], nodes[k] = nodes[k], nodes[i] })
		}
	}
}

// bad are nodes that are not good, each near to one that is.
func bad() []api.Node {
	x := api.Value{Kind: api.Int, N: 1}
	l := []api.Node{
		{}, {Kind: 7}, {Kind: -1}, {Kind: math.MaxInt}, {Kind: math.MinInt}, {R: rect(1, 1, 1, 1)}, {Kind: 7, R: rect(1, 1, 1, 1)}, {Args: []api.Node{cell(1, 1)}}, {Kind: 7, Op: "F", Args: []api.Node{cell(1, 1)}},
		cell(0, 1), cell(1, 0), cell(1001, 1), cell(1, 51), cell(-1, 1), cell(math.MaxInt, math.MinInt), {Kind: api.Cell},
		{Kind: api.Cell, R: rect(1, 1, 1, 1)}, {Kind: api.Cell, R: rect(1, 1, 0, 1)}, {Kind: api.Cell, R: rect(1, 1, 2, 2)}, {Kind: api.Cell, R: rect(1, 1, -1, 0)},
		{Kind: api.Cell, R: rect(1, 1, 0, 0), V: x}, {Kind: api.Cell, R: rect(1, 1, 0, 0), Op: "+"}, {Kind: api.Cell, R: rect(1, 1, 0, 0), Args: []api.Node{one(1)}},
		{Kind: api.Range}, {Kind: api.Range, R: rect(1, 1, 0, 0)}, {Kind: api.Range, R: rect(1, 1, 2, 2), V: x}, {Kind: api.Range, R: rect(1, 1, 2, 2), Op: "F"}, {Kind: api.Range, R: rect(1, 1, 2, 2), Args: []api.Node{cell(1, 1)}},
		{Kind: api.Const}, one(-1), {Kind: api.Const, V: x, R: rect(1, 1, 0, 0)}, {Kind: api.Const, V: x, Args: []api.Node{cell(1, 1)}}, {Kind: api.Const, V: api.Value{Kind: api.Text, S: strings.Repeat("x", 201)}},
		{Kind: api.Neg}, {Kind: api.Neg, Args: []api.Node{cell(1, 1), cell(1, 1)}}, {Kind: api.Neg, Op: "-", Args: []api.Node{cell(1, 1)}}, {Kind: api.Neg, R: rect(1, 1, 1, 1), Args: []api.Node{cell(1, 1)}},
		{Kind: api.Binary, Op: "+"}, {Kind: api.Binary, Op: "+", Args: []api.Node{cell(1, 1)}}, {Kind: api.Binary, Op: "+", Args: []api.Node{cell(1, 1), cell(1, 1), cell(1, 1)}}, {Kind: api.Binary, Op: ":", Args: []api.Node{cell(1, 1), cell(1, 1)}}, {Kind: api.Binary, Args: []api.Node{cell(1, 1), cell(1, 1)}},
		{Kind: api.Call, Args: []api.Node{cell(1, 1)}}, {Kind: api.Call, Op: "f", Args: []api.Node{cell(1, 1)}}, {Kind: api.Call, Op: "ABCDEFGHI", Args: []api.Node{cell(1, 1)}}, {Kind: api.Call, Op: "F", V: x}, call(slices.Repeat([]api.Node{cell(1, 1)}, 11)...),
	}
	for _, r := range crooked() {
		l = append(l, stretch(r))
	}
	return l
}

// crooked are rectangles that are not good.
func crooked() []api.Rect {
	return []api.Rect{
		{}, rect(2, 1, 1, 1), rect(1, 2, 1, 1), rect(2, 2, 1, 1), rect(1, 3, 3, 1), rect(3, 1, 1, 3), rect(1000, 50, 1, 1),
		rect(0, 1, 2, 2), rect(1, 0, 2, 2), rect(1, 1, 1001, 2), rect(1, 1, 2, 51), rect(0, 0, 1001, 51), rect(1001, 1, 1001, 1), rect(1, 51, 1, 51), rect(-3, -3, -1, -1), rect(-1, 1, 3, 3),
		rect(math.MinInt, math.MinInt, math.MaxInt, math.MaxInt), rect(1, 1, math.MaxInt, 1), rect(1, 1, 1, math.MaxInt), rect(math.MinInt, 1, 1, 1), rect(1, math.MinInt, 1, 1), rect(1<<32+1, 1, 1<<32+1, 1), rect(1, 1<<32+1, 1, 1<<32+1),
	}
}

// P8.1: a tree that is not good refers to nothing, wherever in it what is wrong stands, whatever good is beside it.
func TestOfNotGood(t *testing.T) {
	good := stretch(rect(1, 1, 2, 2))
	for _, n := range bad() {
		for i, whole := range []api.Node{
			n, neg(n), sum(n, good), sum(good, n), call(n), call(good, n), call(n, good), call(good, n, good), call(good, good, neg(sum(good, call(n, good)))),
			sum(call(good), call(good, good, good, good, good, good, good, good, good, n)),
		} {
			if got := Of(whole); len(got) != 0 {
				t.Errorf("%d %.100v: %v", i, n, got)
			}
		}
	}
}

// P8.1: trees of the greatest depth, with most Args and with most nodes, and those that are greater; a list that holds itself.
func TestOfGreatTrees(t *testing.T) {
	deep := func(by func(api.Node) api.Node, depth int) api.Node {
		n := cell(3, 4)
		for range depth - 1 {
			n = by(n)
		}
		return n
	}
	for _, by := range []func(api.Node) api.Node{
		neg, func(n api.Node) api.Node { return call(n) }, func(n api.Node) api.Node { return call(one(1), n) },
		func(n api.Node) api.Node { return sum(n, one(1)) }, func(n api.Node) api.Node { return sum(one(1), n) },
	} {
		refers(t, "the deepest", deep(by, 16), "D3:D3")
		refers(t, "too deep", deep(by, 17), "")
		refers(t, "much too deep", deep(by, 1900), "")
	}
	refers(t, "2000 nodes", sized(2000), "D3:D3")
	refers(t, "2001 nodes", sized(2001), "")
	refers(t, "many nodes", sized(100000), "")
	refers(t, "most Args", call(slices.Repeat([]api.Node{cell(3, 4)}, 10)...), "D3:D3")
	endless := call(cell(1, 1), cell(2, 2))
	endless.Args[0] = endless
	refers(t, "without end", endless, "")
	endless = neg(cell(1, 1))
	endless.Args[0] = endless
	refers(t, "without end", endless, "")
}

// sized is a flat tree of so many nodes, whose leaves are one cell.
func sized(nodes int) api.Node {
	if nodes == 1 {
		return cell(3, 4)
	}
	args := make([]api.Node, min(10, nodes-1))
	for i := range args {
		args[i] = sized((nodes - 1 + i) / len(args))
	}
	return call(args...)
}

// P8.1: a tree of 2000 nodes, each of whose leaves is another cell.
func TestOfManyRectangles(t *testing.T) {
	n := sized(2000)
	var want []api.Rect
	var name func(n *api.Node)
	name = func(n *api.Node) {
		if n.Kind == api.Cell {
			from := at(1+len(want)*7%991, 1+len(want)%50)
			want = append(want, api.Rect{From: from, To: from})
			n.R.From = from
		}
		for i := range n.Args {
			name(&n.Args[i])
		}
	}
	name(&n)
	slices.SortFunc(want, order)
	if got := Of(n); len(want) < 900 || !slices.Equal(got, want) {
		t.Error(len(got), len(want))
	}
}

// order is the chapter's, field by field.
func order(a, b api.Rect) int {
	return cmp.Or(cmp.Compare(a.From.Row, b.From.Row), cmp.Compare(a.From.Col, b.From.Col), cmp.Compare(a.To.Row, b.To.Row), cmp.Compare(a.To.Col, b.To.Col))
}

// grown is a tree made at random, whose rectangles are laid into named.
func grown(r *rand.Rand, deep int, named map[api.Rect]int) api.Node {
	kind := r.Intn(6)
	if deep == 0 {
		kind = r.Intn(3)
	}
	a, b := at(1+r.Intn(4), 1+r.Intn(4)), at(1+r.Intn(4), 1+r.Intn(4))
	switch kind {
	case 0:
		return one(int64(r.Intn(9)))
	case 1:
		named[api.Rect{From: a, To: a}]++
		return cell(a.Row, a.Col)
	case 2:
		made, _ := addr.Made(a, b)
		named[made]++
		return stretch(made)
	case 3:
		return neg(grown(r, deep-1, named))
	case 4:
		return sum(grown(r, deep-1, named), grown(r, deep-1, named))
	}
	args := make([]api.Node, r.Intn(5))
	for i := range args {
		args[i] = grown(r, deep-1, named)
	}
	return call(args...)
}

// P8.1, P8.2: many trees, the same ones each time: the rectangles that they were made with, in their order, each once; and a tree refers to a cell just if it names it, or a range that has it.
func TestManyTrees(t *testing.T) {
	r := rand.New(rand.NewSource(8))
	most := 0
	for range 5000 {
		named := map[api.Rect]int{}
		n := grown(r, r.Intn(8), named)
		want := slices.SortedFunc(maps.Keys(named), order)
		got := Of(n)
		if !slices.Equal(got, want) || !Same(got, want) {
			t.Fatalf("%v: %s, not %s", n, show(got), show(want))
		}
		most = max(most, len(got))
		cells := covered(want)
		for row := range 7 {
			for col := range 7 {
				if a := at(row, col); Hits(got, a) != cells[a] {
					t.Fatalf("%s: %v: %v", show(got), a, !cells[a])
				}
			}
		}
		if Cells(got) != len(cells) {
			t.Fatalf("%s: %d, not %d", show(got), Cells(got), len(cells))
		}
	}
	if most < 20 {
		t.Error(most)
	}
}

// covered is the cells of the good ones of l.
func covered(l []api.Rect) map[api.Addr]bool {
	m := map[api.Addr]bool{}
	for _, r := range l {
		if slices.Contains(crooked(), r) {
			continue
		}
		for row := r.From.Row; row <= r.To.Row; row++ {
			for col := r.From.Col; col <= r.To.Col; col++ {
				m[at(row, col)] = true
			}
		}
	}
	return m
}

// few are good rectangles that lie about few rows and columns in all ways.
func few() []api.Rect {
	var l []api.Rect
	for top := 1; top <= 4; top++ {
		for left := 1; left <= 4; left++ {
			for bottom := top; bottom <= 4; bottom++ {
				for right := left; right <= 4; right++ {
					l = append(l, rect(top, left, bottom, right))
				}
			}
		}
	}
	return l
}

// corners are cells at the grid's ends, and lone ones.
func corners() []api.Rect {
	return []api.Rect{rect(1, 1, 1, 1), rect(1, 50, 1, 50), rect(1000, 1, 1000, 1), rect(1000, 50, 1000, 50), rect(1, 1, 1, 50), rect(1, 1, 1000, 1), rect(1000, 1, 1000, 50), rect(1, 50, 1000, 50), rect(7, 8, 9, 10), rect(999, 49, 1000, 50)}
}

// outside are places that are no cells.
func outside() []api.Addr {
	return []api.Addr{{}, at(0, 1), at(1, 0), at(-1, 1), at(1, -1), at(1001, 1), at(1, 51), at(1001, 51), at(1000, 51), at(1001, 50), at(math.MinInt, 1), at(1, math.MinInt), at(math.MaxInt, 1), at(1, math.MaxInt), at(math.MaxInt, math.MaxInt), at(1<<32+1, 1), at(1, 1<<32+1)}
}

// lists are lists of few rectangles and of more, with some among them that are not good.
func lists() [][]api.Rect {
	l := [][]api.Rect{nil, {}, {rect(1, 1, 1000, 50)}, corners(), crooked()}
	for _, r := range few() {
		l = append(l, []api.Rect{r}, []api.Rect{r, r})
	}
	for _, r := range crooked() {
		l = append(l, []api.Rect{r}, []api.Rect{r, rect(2, 2, 3, 3)}, []api.Rect{rect(2, 2, 3, 3), r})
	}
	for _, r := range corners() {
		l = append(l, []api.Rect{r}, []api.Rect{rect(2, 3, 4, 4), r})
	}
	r := rand.New(rand.NewSource(4))
	all := slices.Concat(few(), few(), crooked(), corners()[:4])
	for range 300 {
		some := make([]api.Rect, 1+r.Intn(6))
		for i := range some {
			some[i] = all[r.Intn(len(all))]
		}
		l = append(l, some)
	}
	return l
}

// P8.1: Hits, of lists of all sorts: the cells of the good ones, and no others.
func TestHits(t *testing.T) {
	for _, l := range lists() {
		cells := covered(l)
		for row := range 12 {
			for _, place := range []api.Addr{at(row, 0), at(row, 1), at(row, 2), at(row, 3), at(row, 4), at(row, 5), at(row, 8), at(row, 10), at(row, 49), at(row, 50), at(row, 51), at(990+row, 1), at(990+row, 49), at(990+row, 50), at(990+row, 51)} {
				if Hits(l, place) != cells[place] {
					t.Fatalf("%v %v: %v", l, place, !cells[place])
				}
			}
		}
		for _, a := range outside() {
			if Hits(l, a) {
				t.Fatal(l, a)
			}
		}
	}
	whole := []api.Rect{rect(1, 1, 1000, 50)}
	for row := 0; row <= 1001; row++ {
		for col := 0; col <= 51; col++ {
			if Hits(whole, at(row, col)) != (row >= 1 && row <= 1000 && col >= 1 && col <= 50) {
				t.Fatal(row, col)
			}
		}
	}
}

// P8.1: Meets, of lists of all sorts: does one of them have a cell with r in common; also if they but touch, or lie one in another.
func TestMeets(t *testing.T) {
	for _, l := range lists() {
		cells := covered(l)
		for _, r := range slices.Concat(few(), crooked(), corners()) {
			want := false
			for a := range covered([]api.Rect{r}) {
				want = want || cells[a]
			}
			if Meets(l, r) != want {
				t.Fatalf("%v %v: %v", l, r, !want)
			}
		}
		if Meets(l, rect(1, 1, 1000, 50)) != (len(cells) > 0) {
			t.Fatal(l)
		}
	}
	l := []api.Rect{rect(5, 5, 6, 6), rect(9, 5, 9, 9)}
	for r, want := range map[api.Rect]bool{
		rect(5, 5, 6, 6): true, rect(6, 6, 6, 6): true, rect(1, 1, 5, 5): true, rect(6, 6, 9, 9): true, rect(1, 1, 20, 20): true, rect(5, 1, 5, 50): true, rect(1, 9, 1000, 9): true, rect(8, 9, 9, 9): true,
		rect(1, 1, 4, 50): false, rect(7, 1, 8, 50): false, rect(5, 7, 6, 50): false, rect(1, 1, 1000, 4): false, rect(7, 7, 8, 8): false, rect(4, 4, 4, 4): false, rect(10, 5, 10, 9): false, rect(9, 10, 9, 10): false,
	} {
		if Meets(l, r) != want {
			t.Error(r, !want)
		}
	}
}

// P8.1: Same, of lists of all sorts: one by one, all fields, the good and the others.
func TestSame(t *testing.T) {
	all := lists()
	for i, a := range all {
		for k, b := range all {
			want := len(a) == len(b)
			for at := 0; want && at < len(a); at++ {
				want = order(a[at], b[at]) == 0
			}
			if i == k && !want || Same(a, b) != want {
				t.Fatalf("%v %v: %v", a, b, !want)
			}
		}
		if !Same(a, slices.Clone(a)) || Same(a, append(slices.Clone(a), rect(1, 1, 1, 1))) || Same(append(slices.Clone(a), api.Rect{}), a) {
			t.Fatal(a)
		}
	}
	if !Same(nil, []api.Rect{}) || !Same([]api.Rect{}, nil) || !Same(nil, nil) {
		t.Error("empty lists")
	}
	l := []api.Rect{rect(1, 1, 1, 1), rect(1, 1, 2, 2), rect(3, 1, 4, 5)}
	for _, other := range [][]api.Rect{
		nil, l[:1], l[:2], l[1:], {l[1], l[0], l[2]}, {l[0], l[2], l[1]}, {l[2], l[1], l[0]}, {l[0], l[0], l[1], l[2]}, {l[0], l[1], l[1]}, {l[0], l[1], rect(3, 1, 4, 6)}, {l[0], l[1], rect(3, 1, 5, 5)}, {l[0], l[1], rect(3, 2, 4, 5)}, {l[0], l[1], rect(2, 1, 4, 5)},
	} {
		if Same(l, other) || Same(other, l) {
			t.Error(other)
		}
	}
}

// P8.1: Cells, of lists of all sorts: each cell of the good ones once.
func TestCells(t *testing.T) {
	for _, l := range lists() {
		if n := Cells(l); n != len(covered(l)) {
			t.Fatalf("%v: %d, not %d", l, n, len(covered(l)))
		}
	}
	for s, want := range map[string]int{
		"": 0, "A1:A1": 1, "AX1000:AX1000": 1, "A1:A1 AX1000:AX1000": 2, "A1:AX1000": 50000, "A1:AX1000 A1:AX1000": 50000, "A1:AX1000 C3:D4 A1:A1": 50000, "A1:AX999": 49950, "A1:AW1000": 49000,
		"A1:AX1 A1:A1000": 1049, "A1:B2 B2:C3": 7, "A1:B2 C3:D4": 8, "A1:B2 A3:B4": 8, "A1:B2 C1:D2": 8, "A1:C3 B2:B2": 9, "B2:B2 A1:C3": 9, "A1:A3 C1:C3 A2:C2": 7, "A1:A1 A1:A1 A1:A1": 1, "AX1:AX1000 A1000:AX1000": 1049,
	} {
		if n := Cells(list(t, s)); n != want {
			t.Errorf("%s: %d, not %d", s, n, want)
		}
	}
}

// P8.1: Cells of rectangles at random on the whole grid; the order counts not.
func TestCellsOfTheGrid(t *testing.T) {
	r := rand.New(rand.NewSource(2))
	for range 200 {
		l := make([]api.Rect, r.Intn(8))
		for i := range l {
			l[i], _ = addr.Made(at(1+r.Intn(1000), 1+r.Intn(50)), at(1+r.Intn(1000), 1+r.Intn(50)))
		}
		want := len(covered(l))
		if n := Cells(l); n != want {
			t.Fatalf("%s: %d, not %d", show(l), n, want)
		}
		slices.Reverse(l)
		if n := Cells(append(l, crooked()...)); n != want {
			t.Fatalf("%s: %d, not %d", show(l), n, want)
		}
	}
}

// P8.1, and that all end soon: lists of a million rectangles.
func TestLongLists(t *testing.T) {
	l := slices.Repeat([]api.Rect{rect(1, 1, 1000, 50), {}, rect(2, 2, 1, 1), rect(1, 1, 999, 50)}, 1<<18)
	if Cells(l) != 50000 || !Same(l, slices.Clone(l)) || Same(l, l[1:]) || !Hits(l, at(1000, 50)) || !Meets(l, rect(1000, 50, 1000, 50)) {
		t.Error("whole grids")
	}
	l = slices.Repeat([]api.Rect{rect(1, 1, 999, 50), rect(0, 0, 1001, 51), rect(5, 5, 5, 5)}, 1<<18)
	if Cells(l) != 49950 || Hits(l, at(1000, 50)) || Meets(l, rect(1000, 1, 1000, 50)) {
		t.Error("all but the last row")
	}
}

// P8.1: what Of tells is new memory, its spare room too; the tree stays as it is.
func TestNewMemory(t *testing.T) {
	for _, s := range []string{"A1", "A1:B2", "F(A1,B1,C1)", "A1+B1+C1+D1+E1", "A1+A1", "1"} {
		n := parsed(t, s)
		before := tree.Copy(n)
		first, second := Of(n), Of(n)
		want := slices.Clone(second)
		for i := range first[:cap(first)] {
			first[:cap(first)][i] = rect(9, 9, 9, 9)
		}
		if !Same(second, want) || !Same(Of(n), want) || !tree.Same(n, before) {
			t.Error(s, second, n)
		}
		for _, spare := range second[len(second):cap(second)] {
			if spare == rect(9, 9, 9, 9) {
				t.Error(s, "two answers share spare room")
			}
		}
	}
}

// P8.1: lists and trees that are handed in stay as they are, their spare room too.
func TestSpareRoom(t *testing.T) {
	l := append(make([]api.Rect, 0, 6), rect(5, 5, 6, 6), rect(1, 1, 2, 2), rect(1, 1, 2, 2), rect(2, 2, 1, 1))
	want := slices.Clone(l[:6])
	Hits(l, at(1, 1))
	Meets(l, rect(1, 1, 9, 9))
	Same(l, l[:2])
	Same(l[:2], l)
	if n := Cells(l); n != 8 || !slices.Equal(l[:6], want) {
		t.Error(n, l[:6])
	}
	args := append(make([]api.Node, 0, 5), cell(2, 2), cell(1, 1))
	if got := show(Of(call(args...))); got != "A1:A1 B2:B2" {
		t.Error(got)
	}
	for i, n := range []api.Node{cell(2, 2), cell(1, 1), {}, {}, {}} {
		if !tree.Same(args[:5][i], n) {
			t.Error(i, args[:5][i])
		}
	}
}
