package edit

import (
	"math"
	"math/rand"
	"strings"
	"testing"
	"unsafe"

	"pannier/api"
)

func at(row, col int) api.Addr { return api.Addr{Row: row, Col: col} }

func set(row, col int, src string) api.Edit {
	return api.Edit{Kind: api.Set, A: at(row, col), Src: src}
}

func wipe(row, col, toRow, toCol int) api.Edit {
	return api.Edit{Kind: api.Wipe, R: api.Rect{From: at(row, col), To: at(toRow, toCol)}}
}

// clearOf is a Clear.
func clearOf(row, col int) api.Edit { return api.Edit{Kind: api.Clear, A: at(row, col)} }

// goodIs holds Good against an answer.
func goodIs(t *testing.T, e api.Edit, want bool) {
	t.Helper()
	if is := Good(e); is != want {
		t.Errorf("Good(%d, %v, %v, %q of %d bytes): %v", e.Kind, e.A, e.R, brief(e.Src), len(e.Src), is)
	}
}

// encodeIs holds Encode against an answer.
func encodeIs(t *testing.T, e api.Edit, want string, err api.Errno) {
	t.Helper()
	if b, bad := Encode(e); b != want || bad != err {
		t.Errorf("Encode(%d, %v, %v, %q of %d bytes): %x, %v, not %x, %v", e.Kind, e.A, e.R, brief(e.Src), len(e.Src), brief(b), bad, brief(want), err)
	}
}

// decodeIs holds Decode against an answer.
func decodeIs(t *testing.T, b string, want api.Edit, err api.Errno) {
	t.Helper()
	if e, bad := Decode(b); e != want || bad != err {
		t.Errorf("Decode(%x of %d bytes): %v, %v, not %v, %v", brief(b), len(b), e, bad, want, err)
	}
}

// noForm holds Good and Encode against an edit that has no form.
func noForm(t *testing.T, e api.Edit) {
	t.Helper()
	goodIs(t, e, false)
	encodeIs(t, e, "", api.ErrForm)
}

// noEdit holds Decode against bytes that are no edit's.
func noEdit(t *testing.T, b string) {
	t.Helper()
	decodeIs(t, b, api.Edit{}, api.ErrForm)
}

// likeModel holds Good and Encode against the chapter's words, and Decode against what was told.
func likeModel(t *testing.T, e api.Edit) {
	t.Helper()
	b, err := slowEncode(e)
	goodIs(t, e, err == api.OK)
	encodeIs(t, e, b, err)
	if err == api.OK {
		decodeIs(t, b, e, api.OK)
	}
}

// decodeLikeModel holds Decode against the chapter's words, and Encode against what was told.
func decodeLikeModel(t *testing.T, b string) {
	t.Helper()
	e, err := slowDecode(b)
	decodeIs(t, b, e, err)
	if err == api.OK {
		encodeIs(t, e, b, api.OK)
	}
}

// P17.1: edits of each kind that have a form.
func TestGood(t *testing.T) {
	for _, e := range []api.Edit{
		set(1, 1, ""), set(1, 1, "5"), set(3, 2, "=A1+1"), set(1000, 50, "'x"), set(7, 9, "\x00"), set(7, 9, "\xff\x80\x00"),
		set(7, 9, "=1+"), set(7, 9, strings.Repeat("x", 201)), set(7, 9, strings.Repeat("x", api.MaxSrc)), // a form has no say in what a source is
		clearOf(1, 1), clearOf(3, 2), clearOf(1, 50), clearOf(1000, 1), clearOf(1000, 50),
		wipe(1, 1, 1, 1), wipe(1000, 50, 1000, 50), wipe(7, 1, 7, 50), wipe(1, 9, 1000, 9), wipe(2, 3, 4, 5), wipe(1, 1, 1000, 50),
	} {
		goodIs(t, e, true)
	}
	for _, e := range []api.Edit{
		{}, {Kind: api.Set}, {Kind: api.Clear}, {Kind: api.Wipe},
		set(0, 1, ""), set(1, 0, "5"), set(1001, 1, "5"), set(1, 51, "5"), set(-1, 1, "5"), set(1, 1, strings.Repeat("x", api.MaxSrc+1)),
		clearOf(0, 1), clearOf(1, 0), clearOf(1001, 50), clearOf(1000, 51), clearOf(-3, -2),
		wipe(2, 2, 1, 2), wipe(2, 2, 2, 1), wipe(2, 2, 1, 1), wipe(0, 1, 1, 1), wipe(1, 0, 1, 1), wipe(1, 1, 1001, 1), wipe(1, 1, 1, 51),
	} {
		noForm(t, e)
	}
}

// P17.1: a kind that is none, whatever stands beside it.
func TestKind(t *testing.T) {
	kinds := append(numbers(), 1<<8+api.Wipe, 1<<16+api.Clear, 1<<32+api.Clear, 1<<32+api.Wipe, 1<<62+api.Set, math.MinInt+api.Wipe)
	for kind := -300; kind < 600; kind++ {
		kinds = append(kinds, kind)
	}
	for _, kind := range kinds {
		if kind == api.Set || kind == api.Clear || kind == api.Wipe {
			continue
		}
		for _, e := range []api.Edit{{}, set(1, 1, ""), set(1, 1, "5"), clearOf(3, 2), wipe(1, 1, 2, 2)} {
			e.Kind = kind
			noForm(t, e)
		}
	}
}

// P17.1: each cell of the grid, and those just outside of it.
func TestEachCell(t *testing.T) {
	for row := -2; row <= api.MaxRow+2; row++ {
		for col := -2; col <= api.MaxCol+2; col++ {
			is := 1 <= row && row <= 1000 && 1 <= col && col <= 50
			for _, e := range []api.Edit{set(row, col, "=A1"), clearOf(row, col), wipe(row, col, 1000, 50), wipe(1, 1, row, col)} {
				goodIs(t, e, is)
				likeModel(t, e)
			}
		}
	}
}

// P17.1: cells that are none by any number, those among them that are in the grid in fewer bits.
func TestFarCell(t *testing.T) {
	for _, row := range numbers() {
		for _, col := range numbers() {
			likeModel(t, set(row, col, ""))
			likeModel(t, set(row, col, "5"))
			likeModel(t, clearOf(row, col))
		}
	}
}

// P17.1: rectangles by all edges, turned round and outside of the grid among them.
func TestRect(t *testing.T) {
	good := 0
	l := []int{math.MinInt, -1, 0, 1, 2, 49, 50, 51, 999, 1000, 1001, 65537, 1<<32 + 1, math.MaxInt}
	for _, row := range l {
		for _, col := range l {
			for _, toRow := range l {
				for _, toCol := range l {
					e := wipe(row, col, toRow, toCol)
					likeModel(t, e)
					if Good(e) {
						good++
					}
				}
			}
		}
	}
	// Of the numbers above, seven are rows that rise in 28 ways, and four are columns that rise in 10.
	if good != 28*10 {
		t.Error(good)
	}
}

// P17.1: sources of each length about the greatest, and far above it.
func TestSource(t *testing.T) {
	r := rand.New(rand.NewSource(1))
	for n := range 320 {
		e := set(1+n, 1+n%50, some(r, n))
		goodIs(t, e, n <= 300)
		likeModel(t, e)
	}
	for _, n := range []int{512, 511, 556, 65535, 65536, 65537, 65536 + 300, 1 << 24} {
		noForm(t, set(1, 1, strings.Repeat("x", n)))
	}
	for c := range 256 {
		likeModel(t, set(1, 1, string([]byte{byte(c)})))
	}
}

// P17.1: a field that the kind does not name, and that is not zero.
func TestBeside(t *testing.T) {
	named := map[int][]int{api.Set: {0, 1, 2}, api.Clear: {0, 1, 2}, api.Wipe: {0, 3, 4, 5, 6}}
	for _, e := range []api.Edit{set(3, 2, ""), set(3, 2, "5"), clearOf(3, 2), wipe(3, 2, 4, 5)} {
		goodIs(t, e, true)
		for i := range fields(&e) {
			for _, n := range numbers() {
				other := e
				*fields(&other)[i] = n
				if !has(named[e.Kind], i) && n != 0 {
					noForm(t, other)
				}
				likeModel(t, other)
			}
		}
		if e.Kind == api.Set {
			continue
		}
		for _, src := range []string{"x", "\x00", "=A1", "5", strings.Repeat("x", 300), strings.Repeat("x", 301)} {
			other := e
			other.Src = src
			noForm(t, other)
		}
	}
	// All that may stand beside it, where it would be right of another kind.
	whole := api.Rect{From: at(1, 1), To: at(2, 2)}
	noForm(t, api.Edit{Kind: api.Set, A: at(1, 1), R: whole, Src: "5"})
	noForm(t, api.Edit{Kind: api.Clear, A: at(1, 1), R: whole})
	noForm(t, api.Edit{Kind: api.Wipe, A: at(1, 1), R: whole})
	noForm(t, api.Edit{Kind: api.Wipe, A: at(1, 1), R: whole, Src: "5"})
	noForm(t, api.Edit{Kind: api.Wipe, A: at(1, 1), Src: "5"})
	noForm(t, api.Edit{Kind: api.Set, R: whole, Src: "5"})
	noForm(t, api.Edit{Kind: api.Clear, R: whole})
}

// has tells whether i is in l.
func has(l []int, i int) bool {
	for _, k := range l {
		if k == i {
			return true
		}
	}
	return false
}

// P17.1: the bytes of each kind.
func TestEncode(t *testing.T) {
	encodeIs(t, clearOf(3, 2), "\x02\x00\x03\x02", api.OK)
	encodeIs(t, clearOf(1000, 50), "\x02\x03\xe8\x32", api.OK)
	encodeIs(t, clearOf(256, 1), "\x02\x01\x00\x01", api.OK)
	encodeIs(t, set(1, 1, ""), "\x01\x00\x01\x01\x00\x00", api.OK)
	encodeIs(t, set(1, 1, "a"), "\x01\x00\x01\x01\x00\x01a", api.OK)
	encodeIs(t, set(258, 27, "=A1+1"), "\x01\x01\x02\x1b\x00\x05=A1+1", api.OK)
	encodeIs(t, set(1, 2, "\x00"), "\x01\x00\x01\x02\x00\x01\x00", api.OK)
	encodeIs(t, set(1, 2, "\xff\x80\x00a"), "\x01\x00\x01\x02\x00\x04\xff\x80\x00a", api.OK)
	encodeIs(t, set(1, 2, strings.Repeat("y", 300)), "\x01\x00\x01\x02\x01\x2c"+strings.Repeat("y", 300), api.OK)
	encodeIs(t, set(1, 2, strings.Repeat("y", 301)), "", api.ErrForm)
	encodeIs(t, wipe(3, 2, 3, 2), "\x03\x00\x03\x02\x00\x03\x02", api.OK)
	encodeIs(t, wipe(3, 1, 3, 50), "\x03\x00\x03\x01\x00\x03\x32", api.OK)
	encodeIs(t, wipe(1, 7, 1000, 7), "\x03\x00\x01\x07\x03\xe8\x07", api.OK)
	encodeIs(t, wipe(2, 3, 400, 5), "\x03\x00\x02\x03\x01\x90\x05", api.OK)
}

// P17.1: the edit of bytes of each kind.
func TestDecode(t *testing.T) {
	decodeIs(t, "\x02\x00\x03\x02", clearOf(3, 2), api.OK)
	decodeIs(t, "\x02\x03\xe8\x32", clearOf(1000, 50), api.OK)
	decodeIs(t, "\x01\x00\x01\x01\x00\x00", set(1, 1, ""), api.OK)
	decodeIs(t, "\x01\x01\x02\x1b\x00\x05=A1+1", set(258, 27, "=A1+1"), api.OK)
	decodeIs(t, "\x01\x00\x01\x02\x00\x04\xff\x80\x00a", set(1, 2, "\xff\x80\x00a"), api.OK)
	decodeIs(t, "\x01\x00\x01\x02\x01\x2c"+strings.Repeat("y", 300), set(1, 2, strings.Repeat("y", 300)), api.OK)
	decodeIs(t, "\x03\x00\x03\x02\x00\x03\x02", wipe(3, 2, 3, 2), api.OK)
	decodeIs(t, "\x03\x00\x03\x01\x00\x03\x32", wipe(3, 1, 3, 50), api.OK)
	decodeIs(t, "\x03\x00\x01\x07\x03\xe8\x07", wipe(1, 7, 1000, 7), api.OK)
	decodeIs(t, "\x03\x00\x02\x03\x01\x90\x05", wipe(2, 3, 400, 5), api.OK)
	for _, b := range []string{
		"", "\x01", "\x02", "\x03", "\x00\x00\x01\x01", "\x04\x00\x01\x01", "\xff\x00\x01\x01",
		"\x02\x00\x00\x01", "\x02\x00\x01\x00", "\x02\x03\xe9\x01", "\x02\x00\x01\x33", // a cell that is none
		"\x01\x00\x00\x01\x00\x00", "\x01\x00\x01\x33\x00\x00",
		"\x03\x00\x02\x02\x00\x01\x02", "\x03\x00\x02\x02\x00\x02\x01", "\x03\x00\x00\x01\x00\x01\x01", "\x03\x00\x01\x01\x03\xe9\x01", "\x03\x00\x01\x01\x00\x01\x33",
		"\x01\x00\x01\x01", "\x01\x00\x01\x01\x00", "\x01\x00\x01\x01\x00\x01", "\x01\x00\x01\x01\x00\x02a", "\x01\x00\x01\x01\x00\x00a", "\x01\x00\x01\x01\x01\x00a", "\x01\x00\x01\x01\xff\xffa", // lengths
		"\x01\x00\x01\x02\x01\x2d" + strings.Repeat("y", 301), "\x01\x00\x01\x02\xff\xff" + strings.Repeat("y", 65535), // longer than MaxSrc
		"\x01\x00\x01\x02\x01\x2d" + strings.Repeat("y", 300), "\x01\x00\x01\x02\x01\x2c" + strings.Repeat("y", 301),
		"\x02\x00\x01\x01\x00\x00", "\x01\x00\x01\x01\x00\x02\x02", "\x03\x00\x01\x01", "\x03\x00\x01\x01\x00\x00", "\x02\x00\x01\x01\x00\x01\x01", // another kind's bytes
	} {
		noEdit(t, b)
	}
}

// P17.1: a byte too few, or more, and a byte too many, or more.
func TestLength(t *testing.T) {
	r := rand.New(rand.NewSource(2))
	l := []api.Edit{set(1, 1, ""), set(1, 1, "\x00"), set(1000, 50, "\x00\x00\x00"), set(3, 2, strings.Repeat("x", 300)), set(3, 2, strings.Repeat("\x00", 300)),
		clearOf(1, 1), clearOf(1000, 50), wipe(1, 1, 1, 1), wipe(1, 1, 1000, 50)}
	for range 40 {
		l = append(l, someEdit(r))
	}
	for _, e := range l {
		b, err := Encode(e)
		if err != api.OK {
			t.Fatal(e, err)
		}
		for n := range len(b) {
			noEdit(t, b[:n])
		}
		for c := range 256 {
			noEdit(t, b+string([]byte{byte(c)}))
			noEdit(t, string([]byte{byte(c)})+b)
		}
		for _, n := range []int{2, 3, 6, 256, 65536, 1 << 20} {
			noEdit(t, b+strings.Repeat("\x00", n))
			noEdit(t, b+strings.Repeat("\xff", n))
		}
		noEdit(t, b+b)
	}
}

// P17.1: each kind's byte, ahead of what stands behind each of the three.
func TestEachKindByte(t *testing.T) {
	for c := range 256 {
		for _, rest := range []string{"", "\x00", "\x00\x01\x01", "\x00\x01\x01\x00\x00", "\x00\x01\x01\x00\x01a", "\x00\x01\x01\x00\x02\x02"} {
			b := string([]byte{byte(c)}) + rest
			decodeLikeModel(t, b)
			if c == 0 || c > 3 {
				noEdit(t, b)
			}
		}
	}
}

// P17.1: each row and each column that bytes may say, in each place where a cell stands.
func TestEachCellBytes(t *testing.T) {
	spelt := func(row, col int) string { return string([]byte{byte(row >> 8), byte(row), byte(col)}) }
	each := func(row, col int) {
		s := spelt(row, col)
		decodeLikeModel(t, "\x01"+s+"\x00\x02=1")
		decodeLikeModel(t, "\x02"+s)
		decodeLikeModel(t, "\x03"+s+"\x03\xe8\x32")
		decodeLikeModel(t, "\x03\x00\x01\x01"+s)
		decodeLikeModel(t, "\x03"+s+s)
	}
	for row := range 65536 {
		for _, col := range []int{0, 1, 50, 51} {
			each(row, col)
		}
	}
	for col := range 256 {
		for _, row := range []int{0, 1, 256, 1000, 1001, 1025, 65535} {
			each(row, col)
		}
	}
}

// P17.1: lengths that bytes may say of a source, with as many bytes, one fewer and one more.
func TestEachLength(t *testing.T) {
	x := strings.Repeat("x", 65536)
	for n := 0; n < 65536; n += 1 + n/700*50 {
		ahead := "\x01\x00\x01\x01" + string([]byte{byte(n >> 8), byte(n)})
		if n <= 300 {
			decodeIs(t, ahead+x[:n], set(1, 1, x[:n]), api.OK)
		} else {
			noEdit(t, ahead+x[:n])
		}
		if n > 0 {
			noEdit(t, ahead+x[:n-1])
		}
		noEdit(t, ahead+x[:n+1])
		noEdit(t, ahead+x[:n%256]+"x") // as many as the lowest byte says, and one more
	}
}

// eachText calls do with each text of at most n bytes that are among these.
func eachText(bytes string, n int, do func(string)) {
	var more func(string)
	more = func(s string) {
		do(s)
		for i := 0; i < len(bytes) && len(s) < n; i++ {
			more(s + bytes[i:i+1])
		}
	}
	more("")
}

// P17.1: each short text of some bytes, against the chapter's words.
func TestEachShort(t *testing.T) {
	edits := 0
	hold := func(b string) {
		decodeLikeModel(t, b)
		if _, err := Decode(b); err == api.OK {
			edits++
		}
	}
	eachText("\x00\x01\x02\x03", 8, hold)
	eachText("\x00\x01\x03\x32\x33\xe8\xe9", 6, hold)
	if edits < 700 {
		t.Error(edits)
	}
}

// P17.1: edits with numbers and sources of all kinds, against the chapter's words.
func TestAnyEdit(t *testing.T) {
	r := rand.New(rand.NewSource(3))
	l := numbers()
	for range 20000 {
		e := someEdit(r)
		likeModel(t, e)
		*fields(&e)[r.Intn(7)] = l[r.Intn(len(l))]
		likeModel(t, e)
		e.Src = some(r, r.Intn(320))
		likeModel(t, e)
	}
}

// P17.1: any bytes, and an edit's with one changed, added or taken out, against the chapter's words.
func TestAnyBytes(t *testing.T) {
	r := rand.New(rand.NewSource(4))
	edits, none := 0, 0
	for range 30000 {
		b, _ := slowEncode(someEdit(r))
		i := r.Intn(min(len(b), 9))
		switch r.Intn(4) {
		case 0:
			b = b[:i] + some(r, 1) + b[i+1:]
		case 1:
			b = b[:i] + some(r, 1+r.Intn(2)) + b[i:]
		case 2:
			b = b[:i] + b[i+1:]
		case 3:
			b = string([]byte{byte(r.Intn(5))}) + some(r, r.Intn(9))
		}
		decodeLikeModel(t, b)
		if _, err := Decode(b); err == api.OK {
			edits++
		} else {
			none++
		}
	}
	if edits < 2000 || none < 2000 {
		t.Error(edits, none)
	}
}

// P17.2: Decode of Encode is the edit.
func TestThereAndBack(t *testing.T) {
	r := rand.New(rand.NewSource(5))
	told := map[string]api.Edit{}
	for range 20000 {
		e := someEdit(r)
		b, err := Encode(e)
		if err != api.OK {
			t.Fatal(e, err)
		}
		decodeIs(t, b, e, api.OK)
		if other, there := told[b]; there && other != e {
			t.Error(e, other, "have the same bytes")
		}
		told[b] = e
	}
}

// P17.2: Encode of Decode is the bytes.
func TestBackAndThere(t *testing.T) {
	r := rand.New(rand.NewSource(6))
	edits := 0
	for range 60000 {
		b := string([]byte{byte(1 + r.Intn(3)), byte(r.Intn(5)), byte(r.Intn(256)), byte(r.Intn(60))})
		switch n := r.Intn(310); b[0] {
		case api.Set:
			b += string([]byte{byte(n >> 8), byte(n)}) + some(r, n)
		case api.Wipe:
			b += string([]byte{byte(r.Intn(5)), byte(r.Intn(256)), byte(r.Intn(60))})
		}
		if e, err := Decode(b); err == api.OK {
			edits++
			goodIs(t, e, true)
			encodeIs(t, e, b, api.OK)
		}
	}
	if edits < 20000 {
		t.Error(edits)
	}
}

// What is wrong is told with nothing beside it, however much is right ahead of it.
func TestNothingBeside(t *testing.T) {
	if b, err := Encode(wipe(2, 2, 1, 1)); b != "" || err != api.ErrForm {
		t.Error(b, err)
	}
	for _, b := range []string{"\x01\x00\x01\x01\x00\x01ab", "\x01\x00\x01\x01\x00\x03ab", "\x02\x00\x01\x01\x00", "\x03\x00\x01\x01\x00\x01", "\x03\x00\x02\x01\x00\x01\x01"} {
		if e, err := Decode(b); e.Kind != 0 || e.A != at(0, 0) || e.R.From != at(0, 0) || e.R.To != at(0, 0) || e.Src != "" || err != api.ErrForm {
			t.Error(b, e, err)
		}
	}
}

// within tells whether a and b share memory.
func within(a, b string) bool {
	if a == "" || b == "" {
		return false
	}
	x, y := uintptr(unsafe.Pointer(unsafe.StringData(a))), uintptr(unsafe.Pointer(unsafe.StringData(b)))
	return x < y+uintptr(len(b)) && y < x+uintptr(len(a))
}

// What is told is new memory, of an argument and of another answer; nothing that was handed in is kept.
func TestNewMemory(t *testing.T) {
	for _, n := range []int{0, 1, 2, 33, 300} {
		memory := []byte(strings.Repeat("m", n))
		e := set(1, 1, unsafe.String(unsafe.SliceData(memory), n))
		b, _ := Encode(e)
		again, _ := Encode(e)
		got, _ := Decode(b)
		other, _ := Decode(b)
		if within(b, e.Src) || within(b, again) || within(got.Src, b) || within(got.Src, other.Src) {
			t.Error(n, "memory is shared")
		}
		whole := []byte(b)
		kept, _ := Decode(unsafe.String(&whole[0], len(whole)))
		clear(whole)
		clear(memory)
		if want := strings.Repeat("m", n); b[6:] != want || got.Src != want || kept.Src != want {
			t.Error(n, "memory is kept")
		}
	}
	for _, e := range []api.Edit{clearOf(1, 1), wipe(1, 1, 1, 1), wipe(1, 1, 1000, 50)} {
		b, _ := Encode(e)
		again, _ := Encode(e)
		if within(b, again) {
			t.Error(e, "memory is shared")
		}
	}
}

// What is handed in is not changed.
func TestUnchanged(t *testing.T) {
	r := rand.New(rand.NewSource(7))
	for range 300 {
		n := r.Intn(301)
		memory := []byte(some(r, n))
		was := string(memory)
		e := set(1, 1, unsafe.String(unsafe.SliceData(memory), n))
		Good(e)
		b, _ := Encode(e)
		spelt := []byte(b)
		Decode(unsafe.String(&spelt[0], len(spelt)))
		if string(memory) != was || string(spelt) != b {
			t.Fatal(was, memory)
		}
	}
}

// An answer hangs on the arguments alone: the same calls, in another order, tell the same.
func TestAlone(t *testing.T) {
	r := rand.New(rand.NewSource(8))
	var edits []api.Edit
	var spelt []string
	for range 300 {
		e := someEdit(r)
		*fields(&e)[r.Intn(7)] += r.Intn(2)
		b, _ := slowEncode(someEdit(r))
		edits, spelt = append(edits, e), append(spelt, b[:len(b)-r.Intn(2)])
	}
	for range 5 {
		for _, i := range r.Perm(len(edits)) {
			likeModel(t, edits[i])
			decodeLikeModel(t, spelt[i])
		}
	}
}
