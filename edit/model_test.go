package edit

import (
	"encoding/binary"
	"math"
	"math/rand"

	"pannier/api"
)

// slowGood is what Good is to tell.
func slowGood(e api.Edit) bool {
	noCell, noRect := e.A.Row == 0 && e.A.Col == 0, e.R == api.Rect{}
	switch e.Kind {
	case 1:
		return isCell(e.A) && noRect && len(e.Src) <= 300
	case 2:
		return isCell(e.A) && noRect && e.Src == ""
	case 3:
		return noCell && isCell(e.R.From) && isCell(e.R.To) && e.R.From.Row <= e.R.To.Row && e.R.From.Col <= e.R.To.Col && e.Src == ""
	}
	return false
}

// isCell tells whether a is in the grid.
func isCell(a api.Addr) bool { return 1 <= a.Row && a.Row <= 1000 && 1 <= a.Col && a.Col <= 50 }

// slowEncode is what Encode is to tell.
func slowEncode(e api.Edit) (string, api.Errno) {
	if !slowGood(e) {
		return "", api.ErrForm
	}
	b := []byte{byte(e.Kind)}
	cells := []api.Addr{e.A}
	if e.Kind == 3 {
		cells = []api.Addr{e.R.From, e.R.To}
	}
	for _, a := range cells {
		b = append(binary.BigEndian.AppendUint16(b, uint16(a.Row)), byte(a.Col))
	}
	if e.Kind == 1 {
		b = append(binary.BigEndian.AppendUint16(b, uint16(len(e.Src))), e.Src...)
	}
	return string(b), api.OK
}

// slowDecode is what Decode is to tell.
func slowDecode(b string) (api.Edit, api.Errno) {
	e, ok := slowFound([]byte(b))
	if !ok || !slowGood(e) {
		return api.Edit{}, api.ErrForm
	}
	return e, api.OK
}

// slowFound is the edit, with or without a form, that b has room for, all of it; false, if it has room for none.
func slowFound(b []byte) (api.Edit, bool) {
	cellOf := func(b []byte) api.Addr { return api.Addr{Row: 256*int(b[0]) + int(b[1]), Col: int(b[2])} }
	switch {
	case len(b) >= 6 && b[0] == 1 && len(b)-6 == int(binary.BigEndian.Uint16(b[4:])):
		return api.Edit{Kind: 1, A: cellOf(b[1:]), Src: string(b[6:])}, true
	case len(b) == 4 && b[0] == 2:
		return api.Edit{Kind: 2, A: cellOf(b[1:])}, true
	case len(b) == 7 && b[0] == 3:
		return api.Edit{Kind: 3, R: api.Rect{From: cellOf(b[1:]), To: cellOf(b[4:])}}, true
	}
	return api.Edit{}, false
}

// some is a text of n bytes.
func some(r *rand.Rand, n int) string {
	b := make([]byte, n)
	r.Read(b)
	return string(b)
}

// someCell is a cell.
func someCell(r *rand.Rand) api.Addr { return at(1+r.Intn(1000), 1+r.Intn(50)) }

// someRect is a good rectangle.
func someRect(r *rand.Rand) api.Rect {
	a, b := someCell(r), someCell(r)
	return api.Rect{From: at(min(a.Row, b.Row), min(a.Col, b.Col)), To: at(max(a.Row, b.Row), max(a.Col, b.Col))}
}

// someEdit is an edit that has a form.
func someEdit(r *rand.Rand) api.Edit {
	switch r.Intn(3) {
	case 0:
		return api.Edit{Kind: api.Set, A: someCell(r), Src: some(r, r.Intn(301))}
	case 1:
		return api.Edit{Kind: api.Clear, A: someCell(r)}
	}
	return api.Edit{Kind: api.Wipe, R: someRect(r)}
}

// numbers are those about the edges of the grid and of the ints, and those that are in the grid in fewer bits.
func numbers() []int {
	return []int{math.MinInt, math.MinInt + 1, math.MinInt32, -1<<16 + 1, -1000, -255, -1, 0, 1, 2, 49, 50, 51, 255, 256, 257, 999, 1000, 1001, 65535, 65536, 65537, 1 << 24, 1<<32 + 1, 1<<48 + 50, math.MaxInt - 1, math.MaxInt}
}

// fields are the numbers of e, to be written.
func fields(e *api.Edit) []*int {
	return []*int{&e.Kind, &e.A.Row, &e.A.Col, &e.R.From.Row, &e.R.From.Col, &e.R.To.Row, &e.R.To.Col}
}

// brief is a text for a message.
func brief(s string) string {
	if len(s) > 40 {
		return s[:40] + " .."
	}
	return s
}
