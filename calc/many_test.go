package calc

import (
	"fmt"
	"slices"
	"testing"

	"pannier/addr"
	"pannier/api"
	"pannier/sheet"
)

// name is the name of the cell of that number in column A.
func name(i int) string { return addr.Name(at(i+1, 1)) }

// sized is a calc whose cell of each number from 0 to count - 1, in column A, has a source of that number; they are set from above, or from below.
func sized(t *testing.T, count int, below bool, src func(i int) string) *Calc {
	t.Helper()
	c := New()
	for i := range count {
		if below {
			i = count - 1 - i
		}
		if place, err := c.Do(set(name(i), src(i))); place != 0 || err != api.OK {
			t.Fatal(i, src(i), place, err)
		}
	}
	return c
}

// all holds each value of a calc as that of sized against the one for its number.
func all(t *testing.T, c *Calc, count int, want func(i int) api.Value) {
	t.Helper()
	if l := c.Cells(); len(l) != count {
		t.Fatal(len(l), count)
	}
	for i := range count {
		if got := c.Value(at(i+1, 1)); got != want(i) {
			t.Fatal(i, got, want(i))
		}
	}
}

// asksFrom holds Asked: the cells of these numbers, both ends among them.
func asksFrom(t *testing.T, c *Calc, from, to int) {
	t.Helper()
	var want []api.Addr
	for i := from; i <= to; i++ {
		want = append(want, at(i+1, 1))
	}
	if got := c.Asked(); !slices.Equal(got, want) {
		t.Fatal(from, to, names(got))
	}
}

// P14.1, P14.2: chains as long as there may be cells, both ways, made from either end.
func TestChains(t *testing.T) {
	count, last := api.MaxCells, api.MaxCells-1
	up := func(i int) string {
		if i == 0 {
			return "=1"
		}
		return "=" + name(i-1) + "+1"
	}
	down := func(i int) string {
		if i == last {
			return "=1"
		}
		return "=" + name(i+1) + "+1"
	}
	for _, below := range []bool{false, true} {
		c := sized(t, count, below, up)
		all(t, c, count, func(i int) api.Value { return integer(i + 1) })
		alike(t, c, c.Sheet(), true)
		done(t, c, set(name(0), "=5"))
		all(t, c, count, func(i int) api.Value { return integer(i + 5) })
		asksFrom(t, c, 0, last)
		done(t, c, set(name(600), "7"))
		all(t, c, count, func(i int) api.Value { return integer(i + 5 + i/600*(7-605)) })
		asksFrom(t, c, 601, last)
		done(t, c, set(name(0), "6"))
		asksFrom(t, c, 1, 599)

		c = sized(t, count, below, down)
		all(t, c, count, func(i int) api.Value { return integer(count - i) })
		done(t, c, set(name(last), "=5"))
		all(t, c, count, func(i int) api.Value { return integer(count - i + 4) })
		asksFrom(t, c, 0, last)
		done(t, c, wipe(name(300), name(last)))
		all(t, c, 300, func(i int) api.Value { return integer(300 - i) })
		asksFrom(t, c, 0, 299)
	}
}

// P14.1, P14.2: rings of as many cells as there may be, and of fewer; one edit makes them, and one opens them.
func TestRings(t *testing.T) {
	for _, count := range []int{1, 2, 3, 10, 499, api.MaxCells - 1, api.MaxCells} {
		for _, step := range []int{1, count - 1, 7} { // 7 and these counts have nothing in common
			c := sized(t, count, step == 7, func(i int) string { return "=" + name((i+step)%count) + "+1" })
			all(t, c, count, loop)
			asksFrom(t, c, 0, -1)
			done(t, c, set(name(0), "5"))
			far := make([]int, count) // how far each one is from the first
			for i, k := (count-step%count)%count, 1; i != 0; i, k = (i+count-step%count)%count, k+1 {
				far[i] = k
			}
			all(t, c, count, func(i int) api.Value { return integer(5 + far[i]) })
			asksFrom(t, c, 1, count-1)
			done(t, c, set(name(0), "="+name(count-1)))
			all(t, c, count, loop) // those that are in no ring hang on one
		}
	}
	whole := sized(t, 200, false, func(int) string { return "=COUNT(A1:A1000)" })
	all(t, whole, 200, loop)
	done(t, whole, set(name(150), "3"))
	all(t, whole, 200, func(i int) api.Value {
		if i == 150 {
			return integer(3)
		}
		return loop(i)
	})
}

// P14.1, P14.2: cells that lead to a ring, and cells that hang on one.
func TestRingsAndChains(t *testing.T) {
	src := func(i int) string { // 0 to 399 lead to the ring of 400 to 599, which leads to the rest
		switch {
		case i == 399:
			return "=IFERR(" + name(i+1) + ",3)"
		case i == 599:
			return "=" + name(400) + "+" + name(i+1)
		case i == api.MaxCells-1:
			return "1"
		}
		return "=" + name(i+1) + "+1"
	}
	for _, below := range []bool{false, true} {
		c := sized(t, api.MaxCells, below, src)
		want := func(i int) api.Value {
			switch {
			case i < 400:
				return integer(3 + 399 - i)
			case i < 600:
				return loop(i)
			}
			return integer(api.MaxCells - i)
		}
		all(t, c, api.MaxCells, want)
		alike(t, c, c.Sheet(), true)
		done(t, c, set(name(800), "="+name(801)+"+1+0")) // which changes no value
		all(t, c, api.MaxCells, want)
		asked := c.Asked()
		if slices.ContainsFunc(asked, func(a api.Addr) bool { return a.Row > 400 && a.Row <= 600 || a.Row > 801 }) || !slices.Contains(asked, at(801, 1)) {
			t.Error(names(asked))
		}
		done(t, c, empty(name(450)))
		if v := c.Value(cell(name(0))); v != integer(50+399) { // 400 is 50 more than nothing, and 399 comes to it
			t.Error(v)
		}
		if v := c.Value(cell(name(599))); v != integer(50+400) { // 400 and 600
			t.Error(v)
		}
		alike(t, c, c.Sheet(), true)
		done(t, c, set(name(450), src(450)))
		all(t, c, api.MaxCells, want)
	}
}

// branches is a calc of two columns, of which each cell refers to both below it: there are 2 to the 498 ways from B1 to A500.
func branches(t *testing.T, last string) *Calc {
	t.Helper()
	c := New()
	done(t, c, set("A500", last))
	done(t, c, set("B500", "3"))
	for i := 499; i > 0; i-- {
		for _, col := range []string{"A", "B"} {
			done(t, c, set(col+fmt.Sprint(i), fmt.Sprintf("=MAX(A%d,B%d)", i+1, i+1)))
		}
	}
	return c
}

// P14.1, P14.2: branches that meet again and again are gone through once each.
func TestBranches(t *testing.T) {
	c := branches(t, "7")
	for _, x := range []struct {
		src  string
		want api.Value
		most int // so many may be asked: those that are in no ring
	}{
		{"9", integer(9), 998}, {"=2+2", integer(4), 999}, {"=A1", loop(0), 1}, {"5", integer(5), 998}, {"=B1", loop(0), 1}, {"=B500+1", integer(4), 999}, {"=B499", loop(0), 997}, {"", integer(3), 998},
	} {
		done(t, c, set("A500", x.src))
		for _, a := range c.Cells() {
			if v := c.Value(a); a != cell("B500") && v != x.want {
				t.Fatal(x.src, addr.Name(a), v, x.want)
			}
		}
		if asked := c.Asked(); len(asked) > x.most {
			t.Error(x.src, len(asked), x.most)
		}
		alike(t, c, c.Sheet(), true)
	}
}

// P14.1, P14.2: a fan: each cell refers to all that stand ahead of it, or to one that all others refer to.
func TestFans(t *testing.T) {
	for _, below := range []bool{false, true} {
		count := 150
		sums := sized(t, count, below, func(i int) string {
			if i == 0 {
				return "=COUNTA(B1:AX1000)"
			}
			return "=SUM(A1:" + name(i-1) + ")%1000+1"
		})
		alike(t, sums, sums.Sheet(), true)
		done(t, sums, set("AX1000", "5"))
		asksFrom(t, sums, 0, count-1)
		alike(t, sums, sums.Sheet(), true)
		done(t, sums, set(name(100), "7"))
		asksFrom(t, sums, 101, count-1)
		alike(t, sums, sums.Sheet(), true)
	}
	last := api.MaxCells - 1
	c := sized(t, api.MaxCells, false, func(i int) string { return "=IFERR(" + name(last) + "," + fmt.Sprint(i) + ")" })
	all(t, c, api.MaxCells, func(i int) api.Value {
		if i == last {
			return loop(i)
		}
		return integer(i)
	})
	done(t, c, set(name(last), "-1"))
	all(t, c, api.MaxCells, func(int) api.Value { return integer(-1) })
	asksFrom(t, c, 0, last-1)
}

// P14.1: all ways in which four cells may refer to each other and themselves, one edit from one to the next. Each tells how many of those it refers to are loops.
func TestAllFourCells(t *testing.T) {
	l := []string{"A1", "B1", "A2", "B2"}
	src := func(to int) string {
		s := "=0"
		for k, name := range l {
			if to>>k&1 == 1 {
				s += "+ISERR(" + name + ")"
			}
		}
		return s
	}
	c, s := New(), sheet.New()
	for i := range 1 << 16 {
		graph := i ^ i>>1 // by one reference from one to the next
		var reach [4]int  // the cells that each one reaches, as bits
		for k, name := range l {
			reach[k] = graph >> (4 * k) & 15
			if last := (i - 1) ^ (i-1)>>1; i == 0 || reach[k] != last>>(4*k)&15 {
				done(t, c, set(name, src(reach[k])))
				s.Do(set(name, src(reach[k])))
			}
		}
		for k := range reach {
			for j := range reach {
				if reach[j]>>k&1 == 1 {
					reach[j] |= reach[k]
				}
			}
		}
		for j, name := range l {
			want := 0
			for k := range reach {
				want += graph >> (4*j + k) & 1 * (reach[k] >> k & 1)
			}
			v := c.Value(cell(name))
			if ring := reach[j]>>j&1 == 1; ring && v != loop(j) || !ring && v != integer(want) || v != s.Value(cell(name)) {
				t.Fatal(values(c), s.List())
			}
		}
	}
}
