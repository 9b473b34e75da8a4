package sheet

import (
	"fmt"
	"strings"
	"testing"

	"pannier/addr"
	"pannier/api"
	"pannier/value"
)

// values is what the cells of a sheet come to, as a text: "A1 5, B1 #LOOP".
func values(s *Sheet) string {
	var l []string
	for _, e := range s.Values() {
		l = append(l, strings.TrimSpace(addr.Name(e.A)+" "+value.Show(e.V)))
	}
	return strings.Join(l, ", ")
}

// script is a sheet of names and sources: "A1 5; B1 =A1".
func script(t *testing.T, edits string) *Sheet {
	t.Helper()
	var l []string
	for _, edit := range strings.Split(edits, "; ") {
		name, src, _ := strings.Cut(edit, " ")
		l = append(l, name, src)
	}
	return made(t, l...)
}

// comes holds the values of a sheet against a text as that of values: all at once, and each one by itself.
func comes(t *testing.T, s *Sheet, want string) {
	t.Helper()
	if got := values(s); got != want {
		t.Errorf("%s: %s, not %s", sources(s), got, want)
	}
	for _, e := range s.Values() {
		if v := s.Value(e.A); v != e.V || v.Kind == api.Empty || !value.Good(v) {
			t.Errorf("%s: %s is %v, and %v among all", sources(s), addr.Name(e.A), v, e.V)
		}
	}
}

// P12.2: the values of constants, and of formulas of constants.
func TestValues(t *testing.T) {
	for edits, want := range map[string]string{
		"A1 5": "A1 5", "A1 TRUE": "A1 TRUE", "A1 FALSE": "A1 FALSE", "A1 text": "A1 text", "A1 '12": "A1 12", "A1 '": "A1", "A1 -7": "A1 -7", "A1 =7": "A1 7", "A1 =\"x\"": "A1 x", "A1 =-7": "A1 -7",
		"A1 =1/0": "A1 #DIV", "A1 =9223372036854775807+1": "A1 #OVER", "A1 =1+\"x\"": "A1 #TYPE", "A1 =A2:A3": "A1 #REF", "A1 =LEFT(1)": "A1 #ARG", "A1 =F()": "A1 #NONE", "A1 =REPT(\"x\",201)": "A1 #LONG", "A1 =A1": "A1 #LOOP",
		"A1 =B1": "A1 0", "A1 =ISEMPTY(B1)": "A1 TRUE", "A1 =COUNTA(A2:AX1000)": "A1 0", "A1 =B1&\"x\"": "A1 x", "A1 =B1+1": "A1 1", "A1 =MATCH(1,B1:B9)": "A1 #NONE", "A1 =INDEX(B1:C2,2,2)": "A1 0",
		"A1 5; B1 =A1": "A1 5, B1 5", "A1 =B1; B1 5": "A1 5, B1 5", "A1 TRUE; B1 =A1": "A1 TRUE, B1 TRUE", "A1 '12; B1 =A1; C1 =A1+1": "A1 12, B1 12, C1 13", "A1 '; B1 =A1; C1 =COUNTA(A1:A9); D1 =ISTEXT(B1)": "A1, B1, C1 1, D1 TRUE",
		"A1 2; A2 =A1*A1; A3 =SUM(A1:A2)": "A1 2, A2 4, A3 6", "A1 =1/0; B1 =A1; C1 =ISERR(B1); D1 =IFERR(B1,7)": "A1 #DIV, B1 #DIV, C1 TRUE, D1 7",
		"B2 1; C2 2; B3 3; C3 4; A1 =SUM(B2:C3); D1 =JOIN(B2:C3); D4 =SUM(B1:D3)":                                                    "A1 10, D1 1234, B2 1, C2 2, B3 3, C3 4, D4 1244",
		"A1 1; B1 2; A2 4; B2 8; A3 16; B3 32; D1 =SUM(A1:B2); D2 =SUM(A2:B3); D3 =SUM(B1:B3); D4 =SUM(A2:B2); D5 =SUM(A1:A2,B3)+B2": "A1 1, B1 2, D1 15, A2 4, B2 8, D2 60, A3 16, B3 32, D3 42, D4 12, D5 45",
		"AX1000 7; A1 =AX1000; AX1 =A1000; A1000 =A1":                                                                                "A1 7, AX1 7, A1000 7, AX1000 7", "A1 =MATCH(3,B1:C3); B1 1; C2 3": "A1 4, B1 1, C2 3", "A1 =INDEX(B1:C3,3,1); B3 x; C1 y": "A1 x, C1 y, B3 x",
		"A1 =SUM(A2:A4); A2 1; A3 =A2*2; A4 =A3*2": "A1 7, A2 1, A3 2, A4 4", "A1 =MAX(A2:A9)-MIN(A2:A9)+COUNT(A1:A1); A2 1": "A1 #LOOP, A2 1", "A1 =ROWS(B1:C7)*COLS(B1:C7)": "A1 14", "A1 =IF(B1,C1,D1); C1 5; D1 6": "A1 6, C1 5, D1 6",
	} {
		comes(t, script(t, edits), want)
	}
}

// P12.2: the fault Loop is the value of those cells alone that reach themselves, be what they refer to asked or not; the others make of it what their formulas say.
func TestLoop(t *testing.T) {
	for edits, want := range map[string]string{
		"B2 =B2": "B2 #LOOP", "B2 =B2+1": "B2 #LOOP", "B2 =B2:B2": "B2 #LOOP", "B2 =SUM(A1:B2)": "B2 #LOOP", "B2 =SUM(B2:C3)": "B2 #LOOP", "B2 =SUM(A1:C3)": "B2 #LOOP", "B2 =COUNT(A2:C2)": "B2 #LOOP", "AX1000 =SUM(A1:AX1000)": "AX1000 #LOOP", "A1 =A1:AX1000": "A1 #LOOP",
		"B2 =IF(TRUE,1,B2)": "B2 #LOOP", "B2 =IF(FALSE,B2,1)": "B2 #LOOP", "B2 =IFERR(1,B2)": "B2 #LOOP", "B2 =IFERR(B2,1)": "B2 #LOOP", "B2 =CHOOSE(1,5,B2)": "B2 #LOOP", "B2 =1/0+B2": "B2 #LOOP", "B2 =F(B2)": "B2 #LOOP", "B2 =LEFT(B2)": "B2 #LOOP",
		"B2 =ROWS(B2)": "B2 #LOOP", "B2 =ROWS(A1:B9)": "B2 #LOOP", "B2 =COLS(A1:C3)": "B2 #LOOP", "B2 =INDEX(A1:C3,1,1)": "B2 #LOOP", "B2 =MATCH(1,A1:C3)": "B2 #LOOP", "B2 =ISERR(B2)": "B2 #LOOP", "B2 =ISEMPTY(B2)": "B2 #LOOP", "B2 =0*B2": "B2 #LOOP", "B2 =ROWS(B1:B1)": "B2 1",
		"B2 =SUM(A1:A9)": "B2 0", "B2 =SUM(C1:C9)": "B2 0", "B2 =SUM(A1:C1)": "B2 0", "B2 =SUM(A3:C3)": "B2 0", "B2 =SUM(A1:A9,C1:C9,B1,B3)": "B2 0", "B2 =\"B2\"": "B2 B2", "B2 'B2": "B2 B2",
		"A1 =B1; B1 =A1": "A1 #LOOP, B1 #LOOP", "A1 =SUM(B1:B9); B9 =SUM(A1:A9)": "A1 #LOOP, B9 #LOOP", "A1 =IF(TRUE,1,B1); B1 =ROWS(A1:A2)": "A1 #LOOP, B1 #LOOP", "A1 =B1; B1 =C1; C1 =A1; D1 =IFERR(C1,7)": "A1 #LOOP, B1 #LOOP, C1 #LOOP, D1 7",
		"A1 =A1; B1 =A1": "A1 #LOOP, B1 #LOOP", "A1 =A1; B1 =ISERR(A1)": "A1 #LOOP, B1 TRUE", "A1 =A1; B1 =IF(TRUE,1,A1)": "A1 #LOOP, B1 1", "A1 =A1; B1 =ROWS(A1:A9)": "A1 #LOOP, B1 9", "A1 =A1; B1 =COUNTA(A1:A9)": "A1 #LOOP, B1 1", "A1 =A1; B1 =COUNT(A1:A9)": "A1 #LOOP, B1 0", "A1 =A1; B1 =SUM(A1:A9)": "A1 #LOOP, B1 #LOOP", "A1 =A1; B1 =1/0+A1": "A1 #LOOP, B1 #DIV", "A1 =A1; B1 =A1+1/0": "A1 #LOOP, B1 #LOOP",
		"B1 =B1; A1 =ISERR(B1); C1 =IFERR(A1+B1,A1)": "A1 TRUE, B1 #LOOP, C1 TRUE", "A1 =B1; B1 =C1; C1 =D1; D1 =C1": "A1 #LOOP, B1 #LOOP, C1 #LOOP, D1 #LOOP", "A1 =IFERR(B1,1); B1 =C1; C1 =IFERR(D1,2)+1; D1 =D1": "A1 3, B1 3, C1 3, D1 #LOOP",
		"A1 =A1; B1 =IFERR(A1,5); C1 =C1+B1; D1 =IFERR(C1,6)+B1": "A1 #LOOP, B1 5, C1 #LOOP, D1 11", // B1 stands between two rings
		"A1 =B1; B1 =A1+C1; C1 =IFERR(D1,1); D1 =E1; E1 =D1":     "A1 #LOOP, B1 #LOOP, C1 1, D1 #LOOP, E1 #LOOP",
		"A1 =B1+C1; B1 =D1; C1 =D1; D1 5":                        "A1 10, B1 5, C1 5, D1 5", "A1 =B1+C1; B1 =D1; C1 =D1; D1 =C1": "A1 #LOOP, B1 #LOOP, C1 #LOOP, D1 #LOOP", "A1 =ISERR(B1)&ISERR(C1); B1 =1; C1 =D1; D1 =C1": "A1 FALSETRUE, B1 1, C1 #LOOP, D1 #LOOP",
		"A1 =B1+C1; B1 =A1; C1 =A1": "A1 #LOOP, B1 #LOOP, C1 #LOOP", "A1 =B1; B1 =C1+D1; C1 =1; D1 =A1": "A1 #LOOP, B1 #LOOP, C1 1, D1 #LOOP", "A1 =B1+B1:B1; B1 5": "A1 #REF, B1 5", "A1 =B1; B1 =B1": "A1 #LOOP, B1 #LOOP",
		"A1 =A2; A2 A1": "A1 A1, A2 A1", "A1 =A2; A2 '=A1": "A1 =A1, A2 =A1", // a text is no formula
	} {
		comes(t, script(t, edits), want)
	}
}

// P12.2: a ring is opened, closed, and led elsewhere by one edit.
func TestLoopAndEdits(t *testing.T) {
	s := script(t, "A1 =B1+1; B1 =C1+1; C1 =D1+1; E1 =IFERR(A1,-1)")
	for _, x := range []struct {
		e    api.Edit
		want string
	}{
		{set("D1", "5"), "A1 8, B1 7, C1 6, D1 5, E1 8"}, {set("D1", "=A1"), "A1 #LOOP, B1 #LOOP, C1 #LOOP, D1 #LOOP, E1 -1"}, {set("D1", "=C1"), "A1 #LOOP, B1 #LOOP, C1 #LOOP, D1 #LOOP, E1 -1"}, {set("C1", "=IFERR(D1,2)"), "A1 #LOOP, B1 #LOOP, C1 #LOOP, D1 #LOOP, E1 -1"},
		{set("C1", "3"), "A1 5, B1 4, C1 3, D1 3, E1 5"}, {set("C1", "=D1"), "A1 #LOOP, B1 #LOOP, C1 #LOOP, D1 #LOOP, E1 -1"}, {set("B1", "=ISERR(C1)"), "A1 2, B1 TRUE, C1 #LOOP, D1 #LOOP, E1 2"}, {empty("D1"), "A1 1, B1 FALSE, C1 0, E1 1"},
		{set("D1", "=IF(FALSE,E1,9)"), "A1 #LOOP, B1 #LOOP, C1 #LOOP, D1 #LOOP, E1 #LOOP"}, {wipe("A1", "B9"), "C1 9, D1 9, E1 0"}, {set("A1", ""), "C1 9, D1 9, E1 0"}, {set("A1", "=SUM(A1:E1)"), "A1 #LOOP, C1 #LOOP, D1 #LOOP, E1 #LOOP"}, {set("E1", ""), "A1 #LOOP, C1 9, D1 9"},
	} {
		does(t, s, x.e, 0, api.OK)
		comes(t, s, x.want)
	}
}

// done does an edit that may be done.
func done(t *testing.T, s *Sheet, e api.Edit) {
	t.Helper()
	if place, err := s.Do(e); place != 0 || err != api.OK {
		t.Fatal(e, place, err)
	}
}

// sized is a sheet whose cell of each number from 0 to count - 1, in column A from above, has a source of that number.
func sized(t *testing.T, count int, src func(i int) string) *Sheet {
	t.Helper()
	s := New()
	for i := range count {
		if place, err := s.Do(set(name(i), src(i))); place != 0 || err != api.OK {
			t.Fatal(i, src(i), place, err)
		}
	}
	return s
}

// name is the name of the cell of that number.
func name(i int) string { return addr.Name(at(i+1, 1)) }

// all holds each value of a sheet as that of sized against the one for its number, all at once, and some of them by themselves.
func all(t *testing.T, s *Sheet, count int, want func(i int) api.Value) {
	t.Helper()
	l := s.Values()
	if len(l) != count {
		t.Fatal(len(l), count)
	}
	for i, e := range l {
		if e.A != at(i+1, 1) || e.V != want(i) {
			t.Fatal(i, e, want(i))
		}
		if (i < 3 || i > count-4 || i%100 == 50) && s.Value(e.A) != e.V {
			t.Fatal(i, s.Value(e.A), e.V)
		}
	}
}

func integer(n int) api.Value { return api.Value{Kind: api.Int, N: int64(n)} }

func loop(int) api.Value { return api.Value{Kind: api.Fault, N: api.Loop} }

// P12.2: chains as long as there may be cells, both ways.
func TestChains(t *testing.T) {
	last := api.MaxCells - 1
	up := sized(t, api.MaxCells, func(i int) string {
		if i == 0 {
			return "1"
		}
		return "=" + name(i-1) + "+1"
	})
	all(t, up, api.MaxCells, func(i int) api.Value { return integer(i + 1) })
	down := sized(t, api.MaxCells, func(i int) string {
		if i == last {
			return "1"
		}
		return "=" + name(i+1) + "+1"
	})
	all(t, down, api.MaxCells, func(i int) api.Value { return integer(api.MaxCells - i) })
	done(t, down, set(name(500), "=1/0"))
	all(t, down, api.MaxCells, func(i int) api.Value {
		if i <= 500 {
			return value.Fail(api.Div)
		}
		return integer(api.MaxCells - i)
	})
	sums := sized(t, api.MaxCells, func(i int) string {
		if i == 0 {
			return "7"
		}
		return "=SUM(A1:" + name(i-1) + ")*0+SUM(" + name(i-1) + ")+1"
	})
	all(t, sums, api.MaxCells, func(i int) api.Value { return integer(i + 7) })
}

// P12.2: rings of as many cells as there may be, and of fewer; each cell of them is a loop, and one edit opens them.
func TestRings(t *testing.T) {
	for _, count := range []int{1, 2, 3, 10, 499, api.MaxCells - 1, api.MaxCells} {
		for _, step := range []int{1, count - 1, 7} { // 7 and these counts have nothing in common
			s := sized(t, count, func(i int) string { return "=" + name((i+step)%count) + "+1" })
			all(t, s, count, loop)
			done(t, s, set(name(0), "5"))
			far := make([]int, count) // how far each one is from the first
			for i, k := (count-step%count)%count, 1; i != 0; i, k = (i+count-step%count)%count, k+1 {
				far[i] = k
			}
			all(t, s, count, func(i int) api.Value { return integer(5 + far[i]) })
		}
	}
	whole := sized(t, api.MaxCells, func(int) string { return "=COUNT(A1:A1000)" })
	all(t, whole, api.MaxCells, loop)
	fan := sized(t, api.MaxCells, func(i int) string { return "=IFERR(A1000," + fmt.Sprint(i) + ")" })
	all(t, fan, api.MaxCells, func(i int) api.Value {
		if i == api.MaxCells-1 {
			return loop(i)
		}
		return integer(i)
	})
}

// P12.2: a chain that leads to a ring, and one that leads from it, are no ring.
func TestRingsAndChains(t *testing.T) {
	s := sized(t, api.MaxCells, func(i int) string { // 0 to 399 lead to the ring of 400 to 599, which leads to the rest
		switch {
		case i == 399:
			return "=IFERR(" + name(i+1) + ",3)"
		case i == 599:
			return "=" + name(400) + "+" + name(i+1)
		case i == api.MaxCells-1:
			return "1"
		}
		return "=" + name(i+1) + "+1"
	})
	all(t, s, api.MaxCells, func(i int) api.Value {
		switch {
		case i < 400:
			return integer(3 + 399 - i)
		case i < 600:
			return loop(i)
		}
		return integer(api.MaxCells - i)
	})
	done(t, s, empty(name(450)))
	if v := s.Value(cell(name(0))); v != integer(50+399) { // 400 is 50 more than nothing, and 399 comes to it
		t.Error(v)
	}
}

// P12.2: branches that meet again and again are gone through once each: there are 2 to the 498 ways from B1 to A500.
func TestBranches(t *testing.T) {
	for last, want := range map[string]api.Value{"7": integer(7), "=B500": integer(3), "=A1": loop(0), "=B499": loop(0)} {
		s := New()
		for i := 1; i < 500; i++ {
			for _, col := range []string{"A", "B"} {
				done(t, s, set(col+fmt.Sprint(i), fmt.Sprintf("=MAX(A%d,B%d)", i+1, i+1)))
			}
		}
		done(t, s, set("A500", last))
		done(t, s, set("B500", "3"))
		done(t, s, set("B1", "=IFERR(MAX(A2,B2),-1)")) // it is in no ring: nothing refers to it
		l := s.Values()
		if len(l) != 1000 {
			t.Fatal(len(l))
		}
		for i, e := range l {
			v := want
			switch {
			case e.A == cell("B500"):
				v = integer(3)
			case e.A == cell("B1") && want == loop(0):
				v = integer(-1)
			}
			if e.V != v || (i < 4 || i > 995 || i%100 == 50) && s.Value(e.A) != v {
				t.Fatal(last, e, s.Value(e.A), v)
			}
		}
	}
}

// P12.2: a fan: each cell refers to all that stand ahead of it, or behind it, without a source too.
func TestFans(t *testing.T) {
	count := 200
	down := sized(t, count, func(i int) string { return "=COUNTA(" + name(i+1) + ":A1000)" })
	all(t, down, count, func(i int) api.Value { return integer(count - 1 - i) })
	up := sized(t, count, func(i int) string {
		if i == 0 {
			return "=COUNTA(B1:AX1000)"
		}
		return "=SUM(A1:" + name(i-1) + ")%1000+1"
	})
	sums := make([]int, count)
	for i := range sums[1:] {
		sum := 0
		for _, n := range sums[:i+1] {
			sum += n
		}
		sums[i+1] = sum%1000 + 1
	}
	all(t, up, count, func(i int) api.Value { return integer(sums[i]) })
}

// P12.2: all ways in which four cells may refer to each other and themselves. Each tells how many of those it refers to are loops.
func TestAllFourCells(t *testing.T) {
	names := []string{"A1", "B1", "A2", "B2"}
	src := func(to int) string {
		s := "=0"
		for k, name := range names {
			if to>>k&1 == 1 {
				s += "+ISERR(" + name + ")"
			}
		}
		return s
	}
	s := New()
	for graph := range 1 << 16 {
		var reach [4]int // the cells that each one reaches, as bits
		for i := range reach {
			reach[i] = graph >> (4 * i) & 15
			if graph == 0 || graph>>(4*i)&15 != (graph-1)>>(4*i)&15 {
				done(t, s, set(names[i], src(reach[i])))
			}
		}
		for k := range reach {
			for i := range reach {
				if reach[i]>>k&1 == 1 {
					reach[i] |= reach[k]
				}
			}
		}
		l := s.Values()
		for i, e := range l {
			want := 0
			for k := range reach {
				want += graph >> (4*i + k) & 1 * (reach[k] >> k & 1)
			}
			if v := integer(want); reach[i]>>i&1 == 1 && e.V != loop(i) || reach[i]>>i&1 == 0 && e.V != v || e.V != s.Value(e.A) {
				t.Fatal(sources(s), values(s))
			}
		}
	}
}
