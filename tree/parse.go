package tree

import (
	"errors"

	"pannier/addr"
	"pannier/api"
	"pannier/lex"
	"pannier/num"
)

// maxNesting is how often a part of a formula is nested at most.
const maxNesting = 40

// placed is an error that says where it was.
type placed struct {
	at     int
	number api.Errno
}

// Error is the error with its place as a text.
func (e placed) Error() string { return e.number.Error() + " at " + num.Dec(int64(e.at)) }

// Unwrap is the error without its place.
func (e placed) Unwrap() error { return e.number }

// parser goes over a formula's tokens from left to right.
type parser struct {
	tokens  []api.Token // that are ahead
	end     int         // the text's length
	nesting int
}

// maker makes a node of the tokens ahead, which it takes.
type maker func() (api.Node, error)

// Parse tells the tree of the formula s; with an error, its place.
func Parse(s string) (api.Node, int, api.Errno) {
	tokens, at, number := lex.Cut(s)
	if number != api.OK {
		return api.Node{}, at, number
	}
	p := parser{tokens: tokens, end: len(s)}
	n, err := p.whole()
	if err != nil {
		return api.Node{}, placeOf(err), numberOf(err)
	}
	return n, 0, api.OK
}

// placeOf tells where err was; 0, if it does not say.
func placeOf(err error) int {
	var where placed
	errors.As(err, &where)
	return where.at
}

// numberOf tells the number of err; OK, if it has none.
func numberOf(err error) api.Errno {
	var number api.Errno
	errors.As(err, &number)
	return number
}

// whole makes the formula that all tokens are.
func (p *parser) whole() (api.Node, error) {
	n, err := p.formula()
	if err != nil {
		return api.Node{}, err
	}
	if len(p.tokens) > 0 {
		return api.Node{}, p.misplaced()
	}
	if Depth(n) > api.MaxDeep {
		return api.Node{}, api.ErrDeep
	}
	return n, nil
}

// formula makes one or two sums.
func (p *parser) formula() (api.Node, error) {
	left, err := p.sum()
	if err != nil || !p.sees(isComparing) {
		return left, err
	}
	return p.binary(left, p.sum)
}

// sum makes one or more products.
func (p *parser) sum() (api.Node, error) { return p.row(isAdding, p.product) }

// product makes one or more powers.
func (p *parser) product() (api.Node, error) { return p.row(isMultiplying, p.power) }

// row makes one or more parts with signs of one row between, from left to right.
func (p *parser) row(sign func(string) bool, part maker) (api.Node, error) {
	left, err := part()
	for err == nil && p.sees(sign) {
		left, err = p.binary(left, part)
	}
	return left, err
}

// power makes one or more unaries, from right to left.
func (p *parser) power() (api.Node, error) {
	left, err := p.unary()
	if err != nil || !p.sees(isPower) {
		return left, err
	}
	return p.binary(left, p.nested(p.power))
}

// unary makes a part that any number of - stand ahead of.
func (p *parser) unary() (api.Node, error) {
	if !p.seesSign("-") {
		return p.part()
	}
	p.take()
	n, err := p.nested(p.unary)()
	if err != nil {
		return api.Node{}, err
	}
	return api.Node{Kind: api.Neg, Args: []api.Node{n}}, nil
}

// part makes what has no sign outside of parentheses.
func (p *parser) part() (api.Node, error) {
	switch token := p.ahead(0); token.Kind {
	case api.TkInt:
		p.take()
		return constant(api.Value{Kind: api.Int, N: token.N}), nil
	case api.TkText:
		return p.text()
	case api.TkName:
		if p.isCall() {
			return p.call()
		}
		return p.named()
	}
	if p.seesSign("(") {
		p.take()
		return p.closed(p.nested(p.formula))
	}
	return api.Node{}, p.misplaced()
}

// text makes a constant of the text ahead.
func (p *parser) text() (api.Node, error) {
	s := p.ahead(0).S
	if len(s) > api.MaxText {
		return api.Node{}, p.misplaced()
	}
	p.take()
	return constant(api.Value{Kind: api.Text, S: s}), nil
}

// named makes what a name without a ( behind it stands for.
func (p *parser) named() (api.Node, error) {
	switch p.ahead(0).S {
	case "TRUE":
		p.take()
		return constant(api.Value{Kind: api.Bool, N: 1}), nil
	case "FALSE":
		p.take()
		return constant(api.Value{Kind: api.Bool, N: 0}), nil
	}
	return p.cells()
}

// cells makes a cell, or the range between two.
func (p *parser) cells() (api.Node, error) {
	from, err := p.cell()
	if err != nil {
		return api.Node{}, err
	}
	if !p.seesSign(":") {
		return api.Node{Kind: api.Cell, R: api.Rect{From: from}}, nil
	}
	p.take()
	to, err := p.cell()
	if err != nil {
		return api.Node{}, err
	}
	made, _ := addr.Made(from, to) // it is made of any two cells
	return api.Node{Kind: api.Range, R: made}, nil
}

// cell takes a cell's name.
func (p *parser) cell() (api.Addr, error) {
	token := p.ahead(0)
	a, ok := addr.Parse(token.S)
	if token.Kind != api.TkName || p.isCall() || !ok {
		return api.Addr{}, p.misplaced()
	}
	p.take()
	return a, nil
}

// call makes the call of the function ahead.
func (p *parser) call() (api.Node, error) {
	name := p.ahead(0).S
	if len(name) > maxName {
		return api.Node{}, p.misplaced()
	}
	p.take()
	p.take() // the (
	return p.closed(func() (api.Node, error) {
		args, err := p.args()
		return api.Node{Kind: api.Call, Op: name, Args: args}, err
	})
}

// args makes what stands within a call's parentheses.
func (p *parser) args() ([]api.Node, error) {
	if p.seesSign(")") {
		return nil, nil
	}
	var args []api.Node
	for {
		if len(args) == api.MaxArgs {
			return nil, p.misplaced()
		}
		arg, err := p.nested(p.formula)()
		if err != nil {
			return nil, err
		}
		args = append(args, arg)
		if !p.seesSign(",") {
			return args, nil
		}
		p.take()
	}
}

// closed makes what within makes, and takes the ) behind it.
func (p *parser) closed(within maker) (api.Node, error) {
	n, err := within()
	if err != nil {
		return api.Node{}, err
	}
	if !p.seesSign(")") {
		return api.Node{}, p.misplaced()
	}
	p.take()
	return n, nil
}

// nested is a maker of what inner makes, nested once more.
func (p *parser) nested(inner maker) maker {
	return func() (api.Node, error) {
		if p.nesting == maxNesting {
			return api.Node{}, api.ErrDeep
		}
		p.nesting++
		n, err := inner()
		p.nesting--
		return n, err
	}
}

// binary makes a node of left, of the sign ahead, and of what right makes behind it.
func (p *parser) binary(left api.Node, right maker) (api.Node, error) {
	sign := p.ahead(0).S
	p.take()
	n, err := right()
	if err != nil {
		return api.Node{}, err
	}
	return api.Node{Kind: api.Binary, Op: sign, Args: []api.Node{left, n}}, nil
}

// constant tells the node of v.
func constant(v api.Value) api.Node { return api.Node{Kind: api.Const, V: v} }

// misplaced tells that the next token can't stand where it stands, or that one lacks.
func (p *parser) misplaced() error {
	if len(p.tokens) == 0 {
		return placed{p.end, api.ErrParse}
	}
	return placed{p.tokens[0].At, api.ErrParse}
}

// isCall tells whether the name ahead is a function's.
func (p *parser) isCall() bool { return isSign(p.ahead(1), "(") }

// sees tells whether the next token is such a sign.
func (p *parser) sees(such func(string) bool) bool {
	token := p.ahead(0)
	return token.Kind == api.TkSign && such(token.S)
}

// seesSign tells whether the next token is the sign s.
func (p *parser) seesSign(s string) bool { return isSign(p.ahead(0), s) }

// isSign tells whether token is the sign s.
func isSign(token api.Token, s string) bool { return token.Kind == api.TkSign && token.S == s }

// ahead tells the token that so many others stand ahead of; it is of no kind, if there is none.
func (p *parser) ahead(others int) api.Token {
	if others >= len(p.tokens) {
		return api.Token{}
	}
	return p.tokens[others]
}

// take takes the next token, which there is.
func (p *parser) take() { p.tokens = p.tokens[1:] }
