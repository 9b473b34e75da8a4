package calc

import (
	"testing"

	"pannier/api"
)

// P14.2: what each edit asks, where each cell that it concerns comes to another value or has another source.
func TestAsked(t *testing.T) {
	for _, x := range []struct {
		sources []string
		e       api.Edit
		asked   string
	}{
		{[]string{"A1", "=1", "B1", "=A1", "C1", "=5"}, set("A1", "=2"), "A1 B1"}, // the chapter's example
		{[]string{"A1", "2", "A2", "=A1*A1", "A3", "=SUM(A1:A2)"}, set("A1", "5"), "A2 A3"},
		{[]string{}, set("A1", "5"), ""}, {[]string{}, set("A1", "=5"), "A1"}, {[]string{}, set("A1", "=B1"), "A1"}, {[]string{}, set("A1", "=A1:B2"), ""}, {[]string{}, set("A1", "=A1"), ""}, {[]string{}, set("A1", "=SUM(A2:B2)"), "A1"},
		{[]string{"A1", "=5"}, set("A1", "5"), ""}, {[]string{"A1", "=5"}, set("A1", ""), ""}, {[]string{"A1", "=5"}, empty("A1"), ""}, {[]string{"A1", "=5"}, wipe("A1", "B2"), ""}, {[]string{"A1", "5"}, set("A1", "=5"), "A1"}, {[]string{"A1", "x"}, set("A1", "'=5"), ""},
		{[]string{"B1", "=A1+1"}, set("A1", "5"), "B1"}, {[]string{"B1", "=A1+1", "A1", "5"}, set("A1", ""), "B1"}, {[]string{"B1", "=A1+1", "A1", "5"}, empty("A1"), "B1"}, {[]string{"B1", "=A1+1", "A1", "5"}, wipe("A1", "A9"), "B1"}, {[]string{"B1", "=A1+1", "A1", "5"}, wipe("A1", "B1"), ""},
		{[]string{"A1", "=B1", "B1", "=C1", "C1", "=D1", "D1", "=E1"}, set("D1", "7"), "A1 B1 C1"}, {[]string{"A1", "=B1", "B1", "=C1", "C1", "=D1", "D1", "=E1"}, set("E1", "=7"), "A1 B1 C1 D1 E1"}, {[]string{"A1", "=B1", "B1", "=C1", "C1", "=D1", "D1", "=E1"}, set("B1", "=8"), "A1 B1"},
		{[]string{"A9", "=B1", "B1", "=AX1000", "AX1000", "=Z5", "C2", "=AX1000&A9", "Z5", "3"}, set("Z5", "4"), "B1 C2 A9 AX1000"},        // as cells go, not as they hang on each other
		{[]string{"A1", "=SUM(B1:B9)", "A2", "=SUM(B2:B9)", "A3", "=SUM(B3:B9)", "A4", "=B1+B3", "A5", "=A2"}, set("B2", "5"), "A1 A2 A5"}, // who refers to what is beside it is not asked
		{[]string{"A1", "1", "A2", "=A1", "A3", "=A1", "A4", "=A2+A3", "A5", "=A2+A3+A4", "A6", "=7"}, set("A1", "2"), "A2 A3 A4 A5"},      // each once, in however many ways it hangs on what changed
		{[]string{"B1", "=A1&A2&A3", "A1", "1", "A2", "2", "A3", "3", "C1", "=B1", "D1", "=A9"}, wipe("A1", "A3"), "B1 C1"},                // each once, however many of those that changed it hangs on
		{[]string{"B1", "=A1", "A1", "1", "A2", "2", "C1", "=B1+A2", "D1", "=C1&B1", "E1", "=C9"}, wipe("A1", "B1"), "C1 D1"},              // B1 has no formula any more
		{[]string{"A1", "=B1", "B1", "=A1", "C1", "=IFERR(A1,7)"}, set("B1", "5"), "A1 C1"},                                                // a ring that is opened
		{[]string{"A1", "=B1", "B1", "=A1", "C1", "=IFERR(A1,7)"}, set("B1", "=5"), "A1 B1 C1"},                                            // a ring that is opened
		{[]string{"A1", "=B1", "B1", "5", "C1", "=IFERR(A1,7)"}, set("B1", "=A1"), "C1"},                                                   // a ring that is closed: what stands in it is a loop, and not evaluated
		{[]string{"A1", "=B1", "B1", "=A1", "C1", "5"}, set("C1", "6"), ""}, {[]string{"A1", "=B1+C1", "B1", "=A1"}, set("C1", "6"), ""},   // a ring that stays
		{[]string{"A1", "=B1+C1", "B1", "=A1", "C1", "1", "D1", "=C1&ISERR(A1)"}, set("C1", "6"), "D1"},                            // a ring that stays
		{[]string{"A1", "=D1", "B1", "=A1", "C1", "=B1", "D1", "=ISERR(A9)"}, wipe("A1", "D1"), ""},                                // all are gone
		{[]string{"A1", "=B1", "B1", "=C1", "C1", "=A1", "D1", "=ISERR(A1)", "E1", "=ISERR(C1)"}, wipe("B1", "B1"), "A1 C1 D1 E1"}, // by references that are there ahead of it, and by such as are there behind it
		{[]string{"A1", "1", "B1", "=A1"}, set("A1", "1"), ""}, {[]string{"A1", "=1", "B1", "=A1"}, set("A1", "= (1)"), ""},        // what is there already
		{[]string{"B1", "=A1"}, set("A1", ""), ""}, {[]string{"B1", "=A1"}, empty("A1"), ""}, {[]string{"B1", "=A1"}, wipe("A2", "Z9"), ""}, // what is empty
		{[]string{"B1", "=A1+1"}, set("A1", "="), ""}, {[]string{"B1", "=A1+1"}, set("A1", "=$"), ""}, {[]string{"B1", "=A1"}, api.Edit{}, ""}, // what is refused
	} {
		b := twiceMade(t, x.sources...)
		place, err := b.sheet.May(x.e)
		b.does(t, x.e, place, err)
		if got := names(b.Asked()); got != x.asked {
			t.Errorf("%v %v: %s, not %s", x.sources, x.e, got, x.asked)
		}
		if got := names(b.Asked()); got != x.asked {
			t.Errorf("%v %v: then %s", x.sources, x.e, got)
		}
		for _, e := range []api.Edit{{Kind: 9}, set("A1", "=1+"), {Kind: api.Wipe}, empty("Z99")} {
			place, err := b.sheet.May(e)
			b.does(t, e, place, err)
			asks(t, b.Calc, "")
		}
	}
}

// P14.2: references that an edit took are asked no more, behind it; those that it made are.
func TestAskedByReferences(t *testing.T) {
	b := twice()
	for _, x := range []struct {
		e     api.Edit
		asked string
	}{
		{set("B1", "=A1"), "B1"}, {set("A1", "5"), "B1"}, {set("B1", "=C1"), "B1"}, {set("A1", "6"), ""}, {set("C1", "7"), "B1"}, {set("D1", "=B1"), "D1"}, {set("C1", "8"), "B1 D1"},
		{set("B1", "9"), "D1"}, {set("C1", "10"), ""}, {set("B1", "=SUM(A1:A9)"), "B1 D1"}, {set("A9", "4"), "B1 D1"}, {set("A10", "4"), ""}, {empty("B1"), "D1"}, {set("A9", "5"), ""},
		{set("B1", "=D1"), ""}, {set("B1", "=A9"), "B1 D1"}, {set("A9", "=D1"), ""}, {wipe("A9", "B9"), "B1 D1"}, {set("A9", "1"), "B1 D1"}, {wipe("B1", "D1"), ""}, {set("A9", "2"), ""}, {set("D1", "=A9"), "D1"}, {set("B1", "3"), ""},
	} {
		b.does(t, x.e, 0, api.OK)
		if got := names(b.Asked()); got != x.asked {
			t.Errorf("%v: %s, not %s: %v", x.e, got, x.asked, b.sheet.List())
		}
	}
}

// P14.1, P14.2: rings are made by an edit, and opened by one; cells that lead to a ring, and that hang on one.
func TestRingsByEdits(t *testing.T) {
	b := twiceMade(t, "A1", "=B1+1", "B1", "=C1+1", "C1", "=D1+1", "E1", "=IFERR(A1,-1)")
	for _, x := range []struct {
		e     api.Edit
		want  string
		asked string
	}{
		{set("D1", "5"), "A1 8, B1 7, C1 6, D1 5, E1 8", "A1 B1 C1 E1"}, {set("D1", "=A1"), "A1 #LOOP, B1 #LOOP, C1 #LOOP, D1 #LOOP, E1 -1", "E1"}, {set("C1", "3"), "A1 5, B1 4, C1 3, D1 5, E1 5", "A1 B1 D1 E1"},
		{set("C1", "=D1"), "A1 #LOOP, B1 #LOOP, C1 #LOOP, D1 #LOOP, E1 -1", "E1"}, {set("B1", "=ISERR(C1)"), "A1 #LOOP, B1 #LOOP, C1 #LOOP, D1 #LOOP, E1 -1", "E1"}, {set("D1", "=D1"), "A1 2, B1 TRUE, C1 #LOOP, D1 #LOOP, E1 2", "A1 B1 C1 E1"},
		{empty("D1"), "A1 1, B1 FALSE, C1 0, E1 1", "A1 B1 C1 E1"}, {set("D1", "=IF(FALSE,E1,9)"), "A1 #LOOP, B1 #LOOP, C1 #LOOP, D1 #LOOP, E1 #LOOP", ""}, {wipe("A1", "B9"), "C1 9, D1 9, E1 0", "C1 D1 E1"},
	} {
		b.does(t, x.e, 0, api.OK)
		comes(t, b.Calc, x.want)
		if got := names(b.Asked()); got != x.asked {
			t.Errorf("%v: %s, not %s", x.e, got, x.asked)
		}
	}
}
