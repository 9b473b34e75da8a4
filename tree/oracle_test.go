package tree

import (
	"strconv"
	"strings"

	"pannier/api"
	"pannier/lex"
)

// oracle reads a formula's tokens by two stacks instead of by the grammar's rows: one of what is open, one of each open thing's parts and signs.
type oracle struct {
	tokens []api.Token
	end    int
	open   []*opened
	failed bool
	at     int
	err    api.Errno
}

// opened is a formula that is on its way: the whole one, or what stands within parentheses.
type opened struct {
	name    string // of the call; empty, if it is none
	calls   bool
	args    []api.Node
	nesting int // of the formula
	parts   []api.Node
	signs   []string
	minuses int // ahead of the part that is awaited
}

// oracleParse tells what Parse must answer.
func oracleParse(s string) (api.Node, int, api.Errno) {
	tokens, at, err := lex.Cut(s)
	if err != api.OK {
		return api.Node{}, at, err
	}
	o := &oracle{tokens: tokens, end: len(s), open: []*opened{{}}}
	n := o.run()
	if o.failed {
		return api.Node{}, o.at, o.err
	}
	if levels(n) > 16 {
		return api.Node{}, 0, api.ErrDeep
	}
	return n, 0, api.OK
}

// levels is the depth of n.
func levels(n api.Node) int {
	most := 0
	for _, a := range n.Args {
		most = max(most, levels(a))
	}
	return 1 + most
}

func (o *oracle) fail(i int, err api.Errno) {
	o.failed, o.err, o.at = true, err, 0
	if err == api.ErrParse && i < len(o.tokens) {
		o.at = o.tokens[i].At
	} else if err == api.ErrParse {
		o.at = o.end
	}
}

func (o *oracle) is(i int, signs string) bool {
	return i < len(o.tokens) && o.tokens[i].Kind == api.TkSign && strings.Contains(" "+signs+" ", " "+o.tokens[i].S+" ")
}

func (o *oracle) kind(i int) int {
	if i < len(o.tokens) {
		return o.tokens[i].Kind
	}
	return 0
}

// nest is how often what is awaited now is nested.
func (o *oracle) nest() int {
	top := o.open[len(o.open)-1]
	n := top.nesting + top.minuses
	for i := len(top.signs) - 1; i >= 0 && top.signs[i] == "^"; i-- {
		n++
	}
	return n
}

var looseness = map[string]int{"=": 4, "<>": 4, "<": 4, "<=": 4, ">": 4, ">=": 4, "+": 3, "-": 3, "&": 3, "*": 2, "/": 2, "%": 2, "^": 1}

// reduce makes nodes of the signs of top that bind tighter than row.
func (top *opened) reduce(row int) {
	for len(top.signs) > 0 {
		s := top.signs[len(top.signs)-1]
		if looseness[s] > row || s == "^" && row == 1 {
			return
		}
		k := len(top.parts)
		n := api.Node{Kind: api.Binary, Op: s, Args: []api.Node{top.parts[k-2], top.parts[k-1]}}
		top.parts = append(top.parts[:k-2], n)
		top.signs = top.signs[:len(top.signs)-1]
	}
}

// part puts n, which is whole, behind its minuses.
func (o *oracle) part(n api.Node) {
	top := o.open[len(o.open)-1]
	for ; top.minuses > 0; top.minuses-- {
		n = api.Node{Kind: api.Neg, Args: []api.Node{n}}
	}
	top.parts = append(top.parts, n)
}

func (o *oracle) run() api.Node {
	i, awaits := 0, true
	for !o.failed {
		if awaits {
			if o.nest() > 40 {
				o.fail(i, api.ErrDeep)
				break
			}
			i, awaits = o.operand(i)
			continue
		}
		top := o.open[len(o.open)-1]
		switch {
		case o.is(i, "= <> < <= > >="):
			if strings.ContainsAny(strings.Join(top.signs, ""), "=<>") {
				o.fail(i, api.ErrParse)
				break
			}
			fallthrough
		case o.is(i, "+ - & * / % ^"):
			top.reduce(looseness[o.tokens[i].S])
			top.signs = append(top.signs, o.tokens[i].S)
			awaits = true
		case len(o.open) == 1 && i == len(o.tokens):
			top.reduce(5)
			return top.parts[0]
		case len(o.open) > 1 && top.calls && o.is(i, ","):
			top.reduce(5)
			top.args, top.parts = append(top.args, top.parts[0]), nil
			if len(top.args) == 10 {
				o.fail(i+1, api.ErrParse)
			}
			awaits = true
		case len(o.open) > 1 && o.is(i, ")"):
			top.reduce(5)
			o.open = o.open[:len(o.open)-1]
			if top.calls {
				o.part(api.Node{Kind: api.Call, Op: top.name, Args: append(top.args, top.parts[0])})
			} else {
				o.part(top.parts[0])
			}
		default:
			o.fail(i, api.ErrParse)
		}
		i++
	}
	return api.Node{}
}

// operand takes what may stand where a part is awaited; it tells the next token's number, and whether a part is still awaited.
func (o *oracle) operand(i int) (int, bool) {
	top := o.open[len(o.open)-1]
	switch {
	case o.kind(i) == api.TkInt:
		o.part(api.Node{Kind: api.Const, V: api.Value{Kind: api.Int, N: o.tokens[i].N}})
		return i + 1, false
	case o.kind(i) == api.TkText && len(o.tokens[i].S) <= 200:
		o.part(api.Node{Kind: api.Const, V: api.Value{Kind: api.Text, S: o.tokens[i].S}})
		return i + 1, false
	case o.is(i, "-"):
		top.minuses++
		return i + 1, true
	case o.is(i, "("):
		o.open = append(o.open, &opened{nesting: o.nest() + 1})
		return i + 1, true
	case o.kind(i) == api.TkName && o.is(i+1, "(") && len(o.tokens[i].S) <= 8:
		if o.is(i+2, ")") {
			o.part(api.Node{Kind: api.Call, Op: o.tokens[i].S})
			return i + 3, false
		}
		o.open = append(o.open, &opened{nesting: o.nest() + 1, calls: true, name: o.tokens[i].S})
		return i + 2, true
	case o.kind(i) == api.TkName && !o.is(i+1, "("):
		return o.name(i), false
	}
	o.fail(i, api.ErrParse)
	return i, true
}

// name takes a truth, a cell or a range.
func (o *oracle) name(i int) int {
	s := o.tokens[i].S
	if s == "TRUE" || s == "FALSE" {
		o.part(api.Node{Kind: api.Const, V: api.Value{Kind: api.Bool, N: int64(len("FALSE") - len(s))}})
		return i + 1
	}
	row, col := gridCell(s)
	if row == 0 {
		o.fail(i, api.ErrParse)
		return i
	}
	if !o.is(i+1, ":") {
		o.part(api.Node{Kind: api.Cell, R: api.Rect{From: api.Addr{Row: row, Col: col}}})
		return i + 1
	}
	row2, col2 := 0, 0
	if o.kind(i+2) == api.TkName && !o.is(i+3, "(") {
		row2, col2 = gridCell(o.tokens[i+2].S)
	}
	if row2 == 0 {
		o.fail(i+2, api.ErrParse)
		return i
	}
	o.part(area(min(row, row2), min(col, col2), max(row, row2), max(col, col2)))
	return i + 3
}

// gridCell tells the row and the column of the cell of that name; 0, if there is none. It looks for it through the columns' names.
func gridCell(s string) (int, int) {
	letters := strings.TrimRight(s, "0123456789")
	row, err := strconv.Atoi(s[len(letters):])
	if err != nil || row < 1 || row > 1000 || strconv.Itoa(row) != s[len(letters):] {
		return 0, 0
	}
	for col := 1; col <= 50; col++ {
		name := string(rune('A' + (col-1)%26))
		if col > 26 {
			name = "A" + name
		}
		if name == letters {
			return row, col
		}
	}
	return 0, 0
}
