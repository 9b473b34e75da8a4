package eval

import (
	"bytes"
	"maps"
	"math/big"
	"math/rand"
	"regexp"
	"slices"
	"strconv"
	"strings"
	"testing"

	"pannier/addr"
	"pannier/api"
	"pannier/refs"
	"pannier/tree"
	"pannier/value"
)

// reckoner reckons formulas anew: by great numbers, with what holds in a map, and each fault thrown where it is met.
type reckoner struct{ holds map[api.Addr]api.Value }

// of is what Of must answer of good arguments.
func (r reckoner) of(n api.Node) api.Value {
	v := r.caught(n)
	if v.Kind == api.Empty {
		return integer(0)
	}
	return v
}

// caught is n's value, a fault too.
func (r reckoner) caught(n api.Node) (v api.Value) {
	defer func() {
		if thrown := recover(); thrown != nil {
			v = thrown.(api.Value)
		}
	}()
	return r.any(n)
}

// throw ends what is being reckoned with a fault.
func throw(code int) { panic(fault(int64(code))) }

// any is n's value, if that is no fault.
func (r reckoner) any(n api.Node) api.Value {
	v := void
	switch n.Kind {
	case api.Const:
		v = n.V
	case api.Cell:
		v = r.holds[n.R.From]
	case api.Range:
		throw(api.Ref)
	case api.Neg:
		v = bounded(new(big.Int).Neg(r.num(n.Args[0])))
	case api.Binary:
		v = r.sign(n.Op, n.Args[0], n.Args[1])
	case api.Call:
		v = r.call(n.Op, n.Args)
	}
	if v.Kind == api.Fault {
		panic(v)
	}
	return v
}

var decimal = regexp.MustCompile(`^(0|-?[1-9][0-9]*)$`)

// number is a value as a great number.
func number(v api.Value) *big.Int {
	n := big.NewInt(v.N)
	switch {
	case v.Kind == api.Fault:
		panic(v)
	case v.Kind != api.Text:
		return n
	case !decimal.MatchString(v.S):
		throw(api.Type)
	}
	if n.SetString(v.S, 10); !n.IsInt64() {
		throw(api.Type)
	}
	return n
}

// truthOf is a value as a truth.
func truthOf(v api.Value) bool {
	switch {
	case v.Kind == api.Fault:
		panic(v)
	case v.Kind != api.Text:
		return v.N != 0
	case v.S != "TRUE" && v.S != "FALSE":
		throw(api.Type)
	}
	return v.S == "TRUE"
}

// textOf is a value as a text.
func textOf(v api.Value) string {
	switch v.Kind {
	case api.Fault:
		panic(v)
	case api.Bool:
		return strings.ToUpper(strconv.FormatBool(v.N == 1))
	case api.Int:
		return big.NewInt(v.N).String()
	}
	return v.S
}

func (r reckoner) num(n api.Node) *big.Int { return number(r.any(n)) }

func (r reckoner) str(n api.Node) string { return textOf(r.any(n)) }

// bounded is the Int n.
func bounded(n *big.Int) api.Value {
	if !n.IsInt64() {
		throw(api.Over)
	}
	return integer(n.Int64())
}

// brief is the Text s.
func brief(s string) api.Value {
	if len(s) > 200 {
		throw(api.Long)
	}
	return words(s)
}

func truthIs(is bool) api.Value {
	if is {
		return boolean(1)
	}
	return boolean(0)
}

func (r reckoner) sign(sign string, a, b api.Node) api.Value {
	switch sign {
	case "&":
		return brief(r.str(a) + r.str(b))
	case "+", "-", "*", "/", "%", "^":
		x, y := r.num(a), r.num(b)
		if strings.Contains("/%", sign) && y.Sign() == 0 {
			throw(api.Div)
		}
		if sign == "^" {
			return power(x, y)
		}
		if sign == "%" {
			bounded(new(big.Int).Quo(x, y))
		}
		return bounded(map[string]func(z, x, y *big.Int) *big.Int{"+": (*big.Int).Add, "-": (*big.Int).Sub, "*": (*big.Int).Mul, "/": (*big.Int).Quo, "%": (*big.Int).Rem}[sign](new(big.Int), x, y))
	}
	x, y := r.any(a), r.any(b)
	before, same := ahead(x, y), x == y
	return truthIs(map[string]bool{"=": same, "<>": !same, "<": before, "<=": before || same, ">": !before && !same, ">=": !before}[sign])
}

// ahead: does a go ahead of b in the order?
func ahead(a, b api.Value) bool {
	rank := map[int]int{api.Empty: 0, api.Int: 1, api.Text: 2, api.Bool: 3}
	switch {
	case a.Kind != b.Kind:
		return rank[a.Kind] < rank[b.Kind]
	case a.Kind == api.Text:
		return bytes.Compare([]byte(a.S), []byte(b.S)) < 0
	}
	return big.NewInt(a.N).Cmp(big.NewInt(b.N)) < 0
}

// power is x multiplied y times.
func power(x, y *big.Int) api.Value {
	if y.Sign() < 0 {
		throw(api.Args)
	}
	if x.IsInt64() && x.Int64() >= -1 && x.Int64() <= 1 {
		y = big.NewInt(min(y.Int64(), 2+y.Int64()%2)) // it makes no difference
	}
	if y.Cmp(big.NewInt(100)) > 0 {
		throw(api.Over)
	}
	return bounded(new(big.Int).Exp(x, y, nil))
}

// area is the cells of a Range or a Cell, as cells go.
func area(n api.Node) (l [][]api.Addr) {
	if n.Kind != api.Range && n.Kind != api.Cell {
		throw(api.Ref)
	}
	if n.Kind == api.Cell {
		n.R.To = n.R.From
	}
	for row := n.R.From.Row; row <= n.R.To.Row; row++ {
		var cells []api.Addr
		for col := n.R.From.Col; col <= n.R.To.Col; col++ {
			cells = append(cells, api.Addr{Row: row, Col: col})
		}
		l = append(l, cells)
	}
	return l
}

func (r reckoner) call(name string, args []api.Node) api.Value {
	bounds, ok := takes[name]
	switch {
	case !ok:
		throw(api.None)
	case len(args) < bounds[0] || len(args) > bounds[1]:
		throw(api.Args)
	case slices.Contains(many, name):
		return r.many(name, args)
	case slices.Contains([]string{"IF", "IFERR", "CHOOSE", "ROWS", "COLS", "INDEX", "MATCH", "NOT"}, name) || name[:2] == "IS":
		return r.choice(name, args)
	case bounds[1] == 1:
		return r.one(name, args[0])
	}
	return r.some(name, args)
}

// choice is what functions make that ask their Args in ways of their own.
func (r reckoner) choice(name string, args []api.Node) api.Value {
	first := args[0]
	switch name {
	case "NOT":
		return truthIs(!truthOf(r.any(first)))
	case "ROWS":
		return integer(int64(len(area(first))))
	case "COLS":
		return integer(int64(len(area(first)[0])))
	case "IF":
		if truthOf(r.any(first)) {
			return r.any(args[1])
		}
		return r.any(args[2])
	case "IFERR":
		if v := r.caught(first); v.Kind != api.Fault {
			return v
		}
		return r.any(args[1])
	case "CHOOSE":
		k := r.num(first)
		for i := 1; i < len(args); i++ {
			if k.Cmp(big.NewInt(int64(i))) == 0 {
				return r.any(args[i])
			}
		}
		throw(api.Args)
	case "INDEX":
		row, col := r.num(args[1]), r.num(args[2])
		for i, cells := range area(first) {
			for k, a := range cells {
				if row.Cmp(big.NewInt(int64(i+1))) == 0 && col.Cmp(big.NewInt(int64(k+1))) == 0 {
					return r.holds[a]
				}
			}
		}
		throw(api.Ref)
	case "MATCH":
		cells := slices.Concat(area(args[1])...)
		v := r.any(first)
		for i, a := range cells {
			if r.holds[a] == v && v != void {
				return integer(int64(i + 1))
			}
		}
		throw(api.None)
	}
	return truthIs(r.caught(first).Kind == map[string]int{"ISERR": api.Fault, "ISEMPTY": api.Empty, "ISINT": api.Int, "ISTEXT": api.Text, "ISBOOL": api.Bool}[name])
}

// one is what functions make of a number, or of a text.
func (r reckoner) one(name string, n api.Node) api.Value {
	switch name {
	case "ABS":
		return bounded(new(big.Int).Abs(r.num(n)))
	case "SIGN":
		return integer(int64(r.num(n).Sign()))
	case "VALUE":
		return bounded(r.num(n))
	case "TEXT":
		return words(r.str(n))
	case "LEN":
		return integer(int64(len(r.str(n))))
	}
	small, great := 'a', 'A'
	if name == "LOWER" {
		small, great = great, small
	}
	return words(strings.Map(func(c rune) rune {
		if c >= small && c <= small+25 {
			return c - small + great
		}
		return c
	}, r.str(n)))
}

// some is what functions make of some texts and numbers.
func (r reckoner) some(name string, args []api.Node) api.Value {
	if name == "GCD" {
		x, y := r.num(args[0]), r.num(args[1])
		return bounded(new(big.Int).GCD(nil, nil, x.Abs(x), y.Abs(y)))
	}
	s := r.str(args[0])
	var other string
	if name == "EXACT" || name == "FIND" {
		other = r.str(args[1])
	}
	switch name {
	case "EXACT":
		return truthIs(s == other)
	case "FIND":
		at := big.NewInt(1)
		if len(args) == 3 {
			at = r.num(args[2])
		}
		return found(s, other, at)
	case "MID":
		return middle(s, r.num(args[1]), r.num(args[2]))
	}
	n := r.num(args[1])
	if n.Sign() < 0 {
		throw(api.Args)
	}
	count := 201 // as good as any greater one
	if n.Cmp(big.NewInt(201)) < 0 {
		count = int(n.Int64())
	}
	switch name {
	case "LEFT":
		return words(s[:min(count, len(s))])
	case "RIGHT":
		return words(s[len(s)-min(count, len(s)):])
	}
	return brief(strings.Repeat(s, count))
}

// found is the first place of s in other from there on.
func found(s, other string, at *big.Int) api.Value {
	if at.Sign() <= 0 {
		throw(api.Args)
	}
	for i := range len(other) + 1 {
		if at.Cmp(big.NewInt(int64(i+1))) <= 0 && strings.HasPrefix(other[i:], s) {
			return integer(int64(i + 1))
		}
	}
	panic(fault(api.None))
}

// middle is n bytes of s from there on.
func middle(s string, at, n *big.Int) api.Value {
	if at.Sign() <= 0 || n.Sign() < 0 {
		throw(api.Args)
	}
	to := new(big.Int).Add(at, n)
	cut := ""
	for i := range len(s) {
		if place := big.NewInt(int64(i + 1)); place.Cmp(at) >= 0 && place.Cmp(to) < 0 {
			cut += s[i : i+1]
		}
	}
	return words(cut)
}

// many is what functions of many values make of their Args.
func (r reckoner) many(name string, args []api.Node) api.Value {
	var l []api.Value
	for _, arg := range args {
		if arg.Kind != api.Range {
			l = append(l, r.caught(arg))
			continue
		}
		for _, a := range slices.Concat(area(arg)...) {
			l = append(l, r.holds[a])
		}
	}
	l = slices.DeleteFunc(l, func(v api.Value) bool { return v == void })
	ints := slices.DeleteFunc(slices.Clone(l), func(v api.Value) bool { return v.Kind != api.Int })
	switch name {
	case "COUNT":
		return integer(int64(len(ints)))
	case "COUNTA":
		return integer(int64(len(l)))
	case "AND", "OR":
		return truthsOf(l, name)
	case "JOIN":
		s := ""
		for _, v := range l {
			s = brief(s + textOf(v)).S
		}
		return words(s)
	}
	return numbersOf(l, name)
}

// truthsOf is AND or OR of values.
func truthsOf(l []api.Value, name string) api.Value {
	yes, no := 0, 0
	for _, v := range l {
		if truthOf(v) {
			yes++
		} else {
			no++
		}
	}
	return truthIs(name == "AND" && no == 0 || name == "OR" && yes > 0)
}

// numbersOf is SUM, PRODUCT, MIN, MAX or AVG of values.
func numbersOf(l []api.Value, name string) api.Value {
	if len(l) == 0 {
		return map[string]api.Value{"SUM": integer(0), "PRODUCT": integer(1), "MIN": fault(api.None), "MAX": fault(api.None), "AVG": fault(api.Div)}[name]
	}
	so := number(l[0])
	for _, v := range l[1:] {
		next := number(v)
		switch order := next.Cmp(so); {
		case name == "SUM" || name == "AVG":
			so.Add(so, next)
		case name == "PRODUCT":
			so.Mul(so, next)
		case name == "MIN" && order < 0 || name == "MAX" && order > 0:
			so = next
		}
		bounded(so)
	}
	if name == "AVG" {
		so.Quo(so, big.NewInt(int64(len(l))))
	}
	return bounded(so)
}

// maker makes trees and entries.
type maker struct{ *rand.Rand }

// one is one of l.
func one[T any](m maker, l []T) T { return l[m.Intn(len(l))] }

// constants are what may stand in a formula.
var constants = allConstants()

func allConstants() []api.Value {
	l := []api.Value{boolean(0), boolean(1)}
	for _, n := range []int64{0, 1, 2, 3, 3, 4, 7, 12, 62, 63, 64, 200, 201, 3037000500, 1 << 62, top - 1, top} {
		l = append(l, integer(n))
	}
	for _, s := range []string{"", "a", "ab", "b", "A", "Z", "z", "xabab", "TRUE", "FALSE", "true", "1", "-1", "2", "12", "01", "-0", "9223372036854775807", "-9223372036854775808", "9223372036854775808", "é", "\x00", fullText[:100], fullText[:199], fullText} {
		l = append(l, words(s))
	}
	return l
}

// values are what may be in a cell.
var values = allValues()

func allValues() []api.Value {
	l := allConstants()
	for _, n := range []int64{-1, -2, -3, -7, bottom, bottom + 1} {
		l = append(l, integer(n))
	}
	for code := range int64(8) {
		l = append(l, fault(code+1))
	}
	return l
}

// entries are some of A1 to F6, with values.
func (m maker) entries() (l []api.Entry) {
	dense := m.Intn(5)
	for row := 1; row <= 6; row++ {
		for col := 1; col <= 6; col++ {
			if m.Intn(4) < dense {
				l = append(l, api.Entry{A: api.Addr{Row: row, Col: col}, V: m.value()})
			}
		}
	}
	return l
}

// value is one that may be in a cell: small numbers more often than others, faults less.
func (m maker) value() api.Value {
	if m.Intn(3) > 0 {
		return integer(int64(m.Intn(9) - 2))
	}
	return one(m, values)
}

// rect is a stretch that has some of the cells of entries.
func (m maker) rect() api.Rect {
	r, _ := addr.Made(api.Addr{Row: m.Intn(6) + 1, Col: m.Intn(6) + 1}, api.Addr{Row: m.Intn(7) + 1, Col: m.Intn(7) + 1})
	return r
}

// leaf is a node without Args.
func (m maker) leaf() api.Node {
	switch m.Intn(10) {
	case 0:
		return api.Node{Kind: api.Range, R: m.rect()}
	case 1, 2, 3, 4:
		return api.Node{Kind: api.Cell, R: api.Rect{From: m.rect().From}}
	case 5:
		return api.Node{Kind: api.Const, V: one(m, constants)}
	}
	return api.Node{Kind: api.Const, V: integer(int64(m.Intn(5)))}
}

// signs are all that stand between two.
var signs = strings.Fields("= <> < <= > >= + - & * / % ^")

// node is a tree of at most that depth.
func (m maker) node(depth int) api.Node {
	switch {
	case depth == 1 || m.Intn(8) == 0:
		return m.leaf()
	case m.Intn(8) == 0:
		return api.Node{Kind: api.Neg, Args: []api.Node{m.node(depth - 1)}}
	case m.Intn(3) == 0:
		return api.Node{Kind: api.Binary, Op: one(m, signs), Args: []api.Node{m.node(depth - 1), m.node(depth - 1)}}
	}
	return m.call(one(m, names), depth)
}

// names are all functions' names, as letters go.
var names = slices.Sorted(maps.Keys(takes))

// call is a call of that function, most often with as many Args as it takes.
func (m maker) call(name string, depth int) api.Node {
	bounds := takes[name]
	count := bounds[0] + m.Intn(min(bounds[1], bounds[0]+3)-bounds[0]+1)
	if m.Intn(60) == 0 {
		count = m.Intn(11)
	}
	n := api.Node{Kind: api.Call, Op: name}
	for range count {
		n.Args = append(n.Args, m.node(depth-1))
	}
	if place := map[string]int{"ROWS": 1, "COLS": 1, "INDEX": 1, "MATCH": 2}[name]; place > 0 && place <= count && m.Intn(4) > 0 {
		n.Args[place-1] = api.Node{Kind: api.Range, R: m.rect()}
	}
	if slices.Contains(many, name) && count > 0 && m.Intn(2) == 0 {
		n.Args[m.Intn(count)] = api.Node{Kind: api.Range, R: m.rect()}
	}
	if m.Intn(100) == 0 {
		n.Op = "NOPE"
	}
	return n
}

// agrees holds Of against the reckoner, and P11.3: its value is good, never Empty, and hangs on the cells alone that the formula refers to.
func agrees(t *testing.T, n api.Node, l []api.Entry) api.Value {
	t.Helper()
	r := reckoner{map[api.Addr]api.Value{}}
	for _, e := range l {
		r.holds[e.A] = e.V
	}
	got, want := Of(n, l), r.of(n)
	if got != want || !value.Good(got) || got.Kind == api.Empty {
		t.Fatalf("%+v of %+v: %+v, not %+v", n, l, got, want)
	}
	named := refs.Of(n)
	fewer := slices.DeleteFunc(slices.Clone(l), func(e api.Entry) bool { return !refs.Hits(named, e.A) })
	if again := Of(n, fewer); again != got {
		t.Fatalf("%+v of %+v alone: %+v, not %+v", n, fewer, again, got)
	}
	return got
}

// P11.2, P11.3: trees of all kinds, reckoned twice.
func TestAgainstReckoner(t *testing.T) {
	m := maker{rand.New(rand.NewSource(11))}
	fine, faulty := map[string]int{}, map[string]int{}
	for range 60000 {
		n, l := m.node(2+m.Intn(4)), m.entries()
		if !tree.Good(n) || !Good(l) {
			t.Fatal(n, l)
		}
		if agrees(t, n, l).Kind == api.Fault {
			faulty[n.Op]++
		} else {
			fine[n.Op]++
		}
	}
	for _, name := range slices.Concat(names, signs) {
		if fine[name] < 20 || faulty[name] < 3 && name[0] != 'I' && name[:min(5, len(name))] != "COUNT" {
			t.Errorf("%s: %d without a fault, %d with one", name, fine[name], faulty[name])
		}
	}
}

// P11.2: each sign and each function over all leaves of some sorts.
func TestAllPairs(t *testing.T) {
	l := laid(map[string]api.Value{"A1": integer(-1), "B1": integer(bottom), "A2": words("ab"), "B2": fault(api.Loop), "C1": boolean(1), "C2": integer(2)})
	leaves := []api.Node{{Kind: api.Cell, R: api.Rect{From: cell("C3")}}, {Kind: api.Range, R: api.Rect{From: cell("A1"), To: cell("C2")}}, {Kind: api.Range, R: api.Rect{From: cell("C3"), To: cell("C3")}}}
	for _, e := range l {
		leaves = append(leaves, api.Node{Kind: api.Cell, R: api.Rect{From: e.A}})
	}
	for _, v := range []api.Value{integer(0), integer(1), integer(2), integer(63), integer(top), words(""), words("a"), words("2"), words("TRUE"), words(fullText), boolean(0)} {
		leaves = append(leaves, api.Node{Kind: api.Const, V: v})
	}
	for _, a := range leaves {
		agrees(t, a, l)
		agrees(t, api.Node{Kind: api.Neg, Args: []api.Node{a}}, l)
		for _, b := range leaves {
			for _, sign := range signs {
				agrees(t, api.Node{Kind: api.Binary, Op: sign, Args: []api.Node{a, b}}, l)
			}
			for name, bounds := range takes {
				args := []api.Node{a, b}
				if bounds[0] == 3 {
					for _, c := range leaves {
						agrees(t, api.Node{Kind: api.Call, Op: name, Args: []api.Node{a, b, c}}, l)
					}
				}
				agrees(t, api.Node{Kind: api.Call, Op: name, Args: args[:min(2, bounds[1])]}, l)
			}
		}
	}
}

// Rule 4: what is answered hangs on the arguments alone.
func TestAskedAgain(t *testing.T) {
	m := maker{rand.New(rand.NewSource(12))}
	var trees []api.Node
	var lists [][]api.Entry
	var first []api.Value
	for range 300 {
		n, l := m.node(4), m.entries()
		trees, lists, first = append(trees, n), append(lists, l), append(first, Of(n, l))
	}
	for _, i := range m.Perm(300) {
		if got := Of(trees[i], lists[i]); got != first[i] {
			t.Errorf("%v, then %v", first[i], got)
		}
	}
}
