package calc

import (
	"pannier/addr"
	"pannier/api"
	"pannier/eval"
	"pannier/source"
	"pannier/value"
)

// renew takes over what the sheet has for the cells of changed, and tells anew the values of all formulas that they concern.
func (c *Calc) renew(changed []api.Addr) {
	for _, a := range changed {
		c.take(a)
	}
	c.forget(changed)
	for at, e := range c.values {
		if !c.known(at) {
			c.asked = append(c.asked, e.A)
		}
	}
	for at := range c.values {
		c.through(at)
	}
}

// forget makes the values of all that depend on the cells of changed unknown, but for those that depend on themselves: these are loops, and need not be evaluated.
//
// The references behind the edit are asked alone: who depends on a changed cell and is none comes to the first one on the way by references that the edit did not change.
func (c *Calc) forget(changed []api.Addr) {
	reach := c.graph.Reach(changed)
	for _, a := range reach {
		c.values[c.place(a)].V = api.Value{}
	}
	if len(reach) == 0 { // so none of changed depends on itself
		return
	}
	for _, a := range c.graph.Loops() {
		if at := c.place(a); !c.known(at) {
			c.values[at].V = value.Fail(api.Loop)
		}
	}
}

// known tells whether a value is there, or is still to be told anew.
func (c *Calc) known(at int) bool { return c.values[at].V.Kind != api.Empty }

// step is a cell on the way from the one that is asked for.
type step struct {
	at   int   // the cell, by its place in the values
	refs []int // those with a value that it refers to, rising
	next int   // which one of these is to be looked at
}

// through makes a value known, behind those that it hangs on. None of those that are unknown hangs on itself.
func (c *Calc) through(at int) {
	if c.known(at) {
		return
	}
	way := []step{c.step(at)}
down:
	for len(way) > 0 {
		s := &way[len(way)-1]
		for ; s.next < len(s.refs); s.next++ {
			if to := s.refs[s.next]; !c.known(to) {
				way = append(way, c.step(to))
				continue down // to is looked at once more, when it is known
			}
		}
		c.values[s.at].V = c.evaluated(*s)
		way = way[:len(way)-1]
	}
}

// step tells the one at a cell, of which nothing has been looked at.
func (c *Calc) step(at int) step { return step{at: at, refs: c.referred(at)} }

// evaluated tells the value of a formula, when those that it hangs on are known.
func (c *Calc) evaluated(s step) api.Value {
	known := make([]api.Entry, len(s.refs))
	for i, at := range s.refs {
		known[i] = c.values[at]
	}
	x, _, _ := source.Read(c.sheet.Source(c.values[s.at].A)) // what a sheet tells can be read
	return eval.Of(x.N, known)
}

// referred tells the cells with a value that a cell refers to, rising.
func (c *Calc) referred(at int) (l []int) {
	hit := make([]bool, len(c.values))
	for _, r := range c.graph.Edges(c.values[at].A) {
		for i := c.place(r.From); i < len(hit) && !addr.Before(r.To, c.values[i].A); i++ {
			hit[i] = hit[i] || addr.Has(r, c.values[i].A)
		}
	}
	for i, is := range hit {
		if is {
			l = append(l, i)
		}
	}
	return l
}
