package pack

import (
	"errors"
	"math"
	"math/rand"
	"strings"
	"testing"
	"unsafe"

	"pannier/api"
)

// sizes are those that numbers have.
func sizes() []int { return []int{1, 2, 4, 8} }

// wrongSizes are some that they have not: next to them, their multiples, those that are one of them in fewer bits, the least and the greatest ones.
func wrongSizes() []int {
	l := []int{math.MinInt, math.MinInt + 1, math.MinInt + 8, math.MinInt32, -256, -255, -9, -8, -4, -2, -1, 0, 3, 5, 6, 7, 128, 256, 257, 258, 260, 264,
		1<<16 + 1, 1 << 31, 1<<32 + 1, 1<<32 + 2, 1<<32 + 8, 1 << 61, 1<<61 + 1, 1<<61 + 2, 1<<62 + 4, math.MaxInt - 7, math.MaxInt}
	for size := 9; size < 70; size++ {
		l = append(l, size)
	}
	return l
}

// wrongPlaces are some that b has not.
func wrongPlaces(b string) []int {
	return []int{math.MinInt, math.MinInt + 1, math.MinInt32, -len(b) - 1, min(-len(b), -1), -9, -8, -4, -3, -2, -1, len(b) + 1, len(b) + 2, len(b) + 9, 1 << 32, 1<<32 + 1,
		math.MaxInt - 8, math.MaxInt - 7, math.MaxInt - 2, math.MaxInt - 1, math.MaxInt}
}

// numIs holds Num against an answer.
func numIs(t *testing.T, v uint64, size int, want string, err api.Errno) {
	t.Helper()
	if s, e := Num(v, size); s != want || e != err {
		t.Errorf("Num(%d, %d): %x, %v, not %x, %v", v, size, s, e, want, err)
	}
}

// textIs holds Text against an answer.
func textIs(t *testing.T, s, want string, err api.Errno) {
	t.Helper()
	if b, e := Text(s); b != want || e != err {
		t.Errorf("Text(%q) of %d bytes: %q of %d bytes, %v, not %q of %d bytes, %v", brief(s), len(s), brief(b), len(b), e, brief(want), len(want), err)
	}
}

// takeIs holds Take against an answer.
func takeIs(t *testing.T, b string, at, size int, want uint64, to int, err api.Errno) {
	t.Helper()
	if v, p, e := Take(b, at, size); v != want || p != to || e != err {
		t.Errorf("Take(%q, %d, %d): %d, %d, %v, not %d, %d, %v", brief(b), at, size, v, p, e, want, to, err)
	}
}

// cutIs holds Cut against an answer.
func cutIs(t *testing.T, b string, at, most int, want string, to int, err api.Errno) {
	t.Helper()
	if s, p, e := Cut(b, at, most); s != want || p != to || e != err {
		t.Errorf("Cut(%q, %d, %d): %q, %d, %v, not %q, %d, %v", brief(b), at, most, brief(s), p, e, brief(want), to, err)
	}
}

// P16.1: numbers of each size, the highest byte first.
func TestNum(t *testing.T) {
	numIs(t, 0, 1, "\x00", api.OK)
	numIs(t, 5, 1, "\x05", api.OK)
	numIs(t, 'a', 1, "a", api.OK)
	numIs(t, 0, 2, "\x00\x00", api.OK)
	numIs(t, 1, 2, "\x00\x01", api.OK)
	numIs(t, 0x0102, 2, "\x01\x02", api.OK)
	numIs(t, 256, 2, "\x01\x00", api.OK)
	numIs(t, 0, 4, "\x00\x00\x00\x00", api.OK)
	numIs(t, 0x01020304, 4, "\x01\x02\x03\x04", api.OK)
	numIs(t, 0x80000000, 4, "\x80\x00\x00\x00", api.OK)
	numIs(t, 7, 4, "\x00\x00\x00\x07", api.OK)
	numIs(t, 0, 8, "\x00\x00\x00\x00\x00\x00\x00\x00", api.OK)
	numIs(t, 1, 8, "\x00\x00\x00\x00\x00\x00\x00\x01", api.OK)
	numIs(t, 0x0102030405060708, 8, "\x01\x02\x03\x04\x05\x06\x07\x08", api.OK)
	numIs(t, 0xfedcba9876543210, 8, "\xfe\xdc\xba\x98\x76\x54\x32\x10", api.OK)
	numIs(t, 1<<63, 8, "\x80\x00\x00\x00\x00\x00\x00\x00", api.OK)
}

// P16.1: a number that just goes into a size, and the next one.
func TestNumEdge(t *testing.T) {
	numIs(t, 255, 1, "\xff", api.OK)
	numIs(t, 256, 1, "", api.ErrLong)
	numIs(t, 65535, 2, "\xff\xff", api.OK)
	numIs(t, 65536, 2, "", api.ErrLong)
	numIs(t, 1<<32-1, 4, "\xff\xff\xff\xff", api.OK)
	numIs(t, 1<<32, 4, "", api.ErrLong)
	numIs(t, math.MaxUint64, 8, "\xff\xff\xff\xff\xff\xff\xff\xff", api.OK)
	for _, size := range sizes()[:3] {
		numIs(t, math.MaxUint64, size, "", api.ErrLong)
		for bit := 8 * size; bit < 64; bit++ { // what goes over is one bit alone, wherever it is
			numIs(t, 1<<bit, size, "", api.ErrLong)
			numIs(t, 1<<bit|5, size, "", api.ErrLong)
		}
	}
}

// P16.1: each number that goes into one byte or two, and those behind.
func TestNumEach(t *testing.T) {
	for v := range uint64(1 << 17) {
		for _, size := range sizes() {
			want, err := slowNum(v, size)
			numIs(t, v, size, want, err)
		}
	}
}

// P16.1: numbers of any length, and about where one byte more is needed.
func TestNumAny(t *testing.T) {
	r := rand.New(rand.NewSource(1))
	l := []uint64{0, 1, 2, math.MaxInt64, 1 << 63, math.MaxUint64 - 1, math.MaxUint64}
	for bit := range 64 {
		l = append(l, 1<<bit-2, 1<<bit-1, 1<<bit, 1<<bit+1)
	}
	for range 20000 {
		l = append(l, anyNumber(r))
	}
	for _, v := range l {
		for size := -1; size <= 10; size++ {
			want, err := slowNum(v, size)
			numIs(t, v, size, want, err)
		}
	}
}

// P16.1: sizes that are none, whatever the number.
func TestNumSize(t *testing.T) {
	for _, size := range wrongSizes() {
		for _, v := range []uint64{0, 1, 255, 256, 65536, 1 << 32, math.MaxUint64} {
			numIs(t, v, size, "", api.ErrArg)
		}
	}
}

// P16.1: texts of no byte, of one, of many, of any bytes.
func TestText(t *testing.T) {
	textIs(t, "", "\x00\x00", api.OK)
	textIs(t, "a", "\x00\x01a", api.OK)
	textIs(t, "abc", "\x00\x03abc", api.OK)
	textIs(t, "\x00", "\x00\x01\x00", api.OK)
	textIs(t, "\xff", "\x00\x01\xff", api.OK)
	textIs(t, "\x00\x01a", "\x00\x03\x00\x01a", api.OK)
	textIs(t, "\u00e9\u20ac", "\x00\x05\xc3\xa9\xe2\x82\xac", api.OK) // lengths are in bytes
	textIs(t, strings.Repeat("x", 255), "\x00\xff"+strings.Repeat("x", 255), api.OK)
	textIs(t, strings.Repeat("x", 256), "\x01\x00"+strings.Repeat("x", 256), api.OK)
	textIs(t, strings.Repeat("x", 258), "\x01\x02"+strings.Repeat("x", 258), api.OK)
	textIs(t, strings.Repeat("\x80", 2000), "\x07\xd0"+strings.Repeat("\x80", 2000), api.OK)
	r := rand.New(rand.NewSource(2))
	for n := range 1200 {
		s := some(r, n)
		want, err := slowText(s)
		textIs(t, s, want, err)
	}
}

// P16.1: the longest text, and longer ones, those among them whose length says less in its lowest two bytes.
func TestTextLong(t *testing.T) {
	textIs(t, strings.Repeat("x", 65534), "\xff\xfe"+strings.Repeat("x", 65534), api.OK)
	textIs(t, strings.Repeat("x", 65535), "\xff\xff"+strings.Repeat("x", 65535), api.OK)
	for _, n := range []int{65536, 65537, 65536 + 255, 2*65536 - 1, 2 * 65536, 2*65536 + 3, 1 << 24, 1<<24 + 1} {
		textIs(t, strings.Repeat("x", n), "", api.ErrLong)
	}
}

// P16.2: numbers of each size, at their places.
func TestTake(t *testing.T) {
	b := "\x01\x02\x03\x04\x05\x06\x07\x08\x80\xff"
	takeIs(t, b, 0, 1, 1, 1, api.OK)
	takeIs(t, b, 0, 2, 0x0102, 2, api.OK)
	takeIs(t, b, 0, 4, 0x01020304, 4, api.OK)
	takeIs(t, b, 0, 8, 0x0102030405060708, 8, api.OK)
	takeIs(t, b, 2, 8, 0x03040506070880ff, 10, api.OK)
	takeIs(t, b, 5, 1, 6, 6, api.OK)
	takeIs(t, b, 6, 4, 0x070880ff, 10, api.OK)
	takeIs(t, b, 8, 2, 0x80ff, 10, api.OK)
	takeIs(t, b, 9, 1, 0xff, 10, api.OK)
	takeIs(t, "\xff\xff\xff\xff\xff\xff\xff\xff", 0, 8, math.MaxUint64, 8, api.OK)
	takeIs(t, "\xff\xff\xff\xff", 0, 4, 1<<32-1, 4, api.OK)
	takeIs(t, "\x00", 0, 1, 0, 1, api.OK)
	takeIs(t, "\x80\x00\x00\x00\x00\x00\x00\x00", 0, 8, 1<<63, 8, api.OK)
}

// P16.2: so many bytes that all stand there, and one fewer; the end, and behind it.
func TestTakeShort(t *testing.T) {
	for _, size := range sizes() {
		for ahead := range 12 {
			b := strings.Repeat("\xaa", ahead) + strings.Repeat("\x00", size-1) + "\x09"
			takeIs(t, b, ahead, size, 9, ahead+size, api.OK)
			takeIs(t, b[:len(b)-1], ahead, size, 0, 0, api.ErrForm)
			takeIs(t, b, ahead+1, size, 0, 0, api.ErrForm)
			takeIs(t, b, len(b), size, 0, 0, api.ErrForm)
		}
		takeIs(t, "", 0, size, 0, 0, api.ErrForm)
		takeIs(t, "", 1, size, 0, 0, api.ErrForm)
		takeIs(t, "", -1, size, 0, 0, api.ErrForm)
	}
}

// P16.2: places that are none; a size that is none goes ahead of them.
func TestTakePlace(t *testing.T) {
	for _, b := range []string{"", "a", "abcd", "abcdefgh", strings.Repeat("x", 100)} {
		for _, at := range wrongPlaces(b) {
			for _, size := range sizes() {
				takeIs(t, b, at, size, 0, 0, api.ErrForm)
			}
			for _, size := range wrongSizes() {
				takeIs(t, b, at, size, 0, 0, api.ErrArg)
			}
		}
		for _, size := range wrongSizes() {
			takeIs(t, b, 0, size, 0, 0, api.ErrArg)
			takeIs(t, b, len(b), size, 0, 0, api.ErrArg)
		}
	}
}

// P16.2: texts at their places.
func TestCut(t *testing.T) {
	cutIs(t, "\x00\x01a", 0, 1, "a", 3, api.OK)
	cutIs(t, "\x00\x00", 0, 0, "", 2, api.OK)
	cutIs(t, "\x00\x00", 0, 9, "", 2, api.OK)
	cutIs(t, "\x00\x03abcde", 0, 9, "abc", 5, api.OK)
	cutIs(t, "xy\x00\x03abcde", 2, 9, "abc", 7, api.OK)
	cutIs(t, "\x00\x03\x00\x01a", 0, 9, "\x00\x01a", 5, api.OK)
	cutIs(t, "\x00\x03\x00\x01a", 2, 9, "a", 5, api.OK)
	cutIs(t, "\x00\x02\x80\xff", 0, 2, "\x80\xff", 4, api.OK)
	cutIs(t, "\x01\x02"+strings.Repeat("x", 300), 0, 258, strings.Repeat("x", 258), 260, api.OK)
	cutIs(t, "\x00\x01a", 0, math.MaxInt, "a", 3, api.OK)
	cutIs(t, "\xff\xff"+strings.Repeat("y", 65535), 0, 65535, strings.Repeat("y", 65535), 65537, api.OK)
	cutIs(t, "\xff\xff"+strings.Repeat("y", 65535), 0, 65534, "", 0, api.ErrLong)
	cutIs(t, "\xff\xff"+strings.Repeat("y", 65534), 0, 65535, "", 0, api.ErrForm)
	cutIs(t, "\x80\x00"+strings.Repeat("y", 32768), 0, 32768, strings.Repeat("y", 32768), 32770, api.OK)
}

// P16.2: a length that stands there half, a text that lacks a byte, also where it is longer than most; a text as long as most, and a longer one.
func TestCutShort(t *testing.T) {
	for n := range 300 {
		s := strings.Repeat("s", n)
		b, _ := Text(s)
		for _, ahead := range []string{"", "p", "\x00\x00", "\xff\xff\xff"} {
			at := len(ahead)
			cutIs(t, ahead+b, at, n, s, at+2+n, api.OK)
			cutIs(t, ahead+b+"z", at, n+1, s, at+2+n, api.OK)
			for _, most := range []int{n - 1, n / 2, 0, -1, math.MinInt} {
				if most < n {
					cutIs(t, ahead+b, at, most, "", 0, api.ErrLong)
					cutIs(t, ahead+b+"z", at, most, "", 0, api.ErrLong)
				}
			}
			for _, most := range []int{math.MinInt, -1, 0, 1, n - 1, n, n + 1, math.MaxInt} {
				cutIs(t, (ahead + b)[:at+1+n], at, most, "", 0, api.ErrForm)
				cutIs(t, ahead+b[:1], at, most, "", 0, api.ErrForm)
				cutIs(t, ahead, at, most, "", 0, api.ErrForm)
			}
		}
	}
}

// P16.2: places that are none, whatever most is.
func TestCutPlace(t *testing.T) {
	for _, b := range []string{"", "\x00", "\x00\x00", "\x00\x02ab", strings.Repeat("\x00", 100)} {
		for _, at := range wrongPlaces(b) {
			for _, most := range []int{math.MinInt, -1, 0, 1, 9, math.MaxInt} {
				cutIs(t, b, at, most, "", 0, api.ErrForm)
			}
		}
		cutIs(t, b, len(b), 9, "", 0, api.ErrForm)
	}
}

// eachText calls do with each text of at most n bytes that are among these.
func eachText(bytes string, n int, do func(string)) {
	var more func(string)
	more = func(s string) {
		do(s)
		for i := 0; i < len(bytes) && len(s) < n; i++ {
			more(s + bytes[i:i+1])
		}
	}
	more("")
}

// P16.2: each short text of some bytes, at each place about it, against the chapter's words.
func TestEachShort(t *testing.T) {
	eachText("\x00\x01\x02\x03\xff", 5, func(b string) {
		for at := -2; at <= len(b)+2; at++ {
			for size := -1; size <= 9; size++ {
				v, to, err := slowTake(b, at, size)
				takeIs(t, b, at, size, v, to, err)
			}
			for most := -1; most <= 4; most++ {
				s, to, err := slowCut(b, at, most)
				cutIs(t, b, at, most, s, to, err)
			}
		}
	})
}

// P16.2: any bytes at any places, against the chapter's words.
func TestAny(t *testing.T) {
	r := rand.New(rand.NewSource(3))
	for range 30000 {
		b := some(r, r.Intn(40))
		if at := r.Intn(40); at < len(b) { // a length that is not beyond all that stands there
			b = b[:at] + "\x00" + some(r, 1)[:r.Intn(2)] + b[at:]
		}
		at := r.Intn(len(b)+4) - 2
		size, most := r.Intn(11)-1, r.Intn(50)-1
		v, to, err := slowTake(b, at, size)
		takeIs(t, b, at, size, v, to, err)
		s, to, err := slowCut(b, at, most)
		cutIs(t, b, at, most, s, to, err)
	}
}

// P16.3: numbers and texts, one behind the other, told again each at its place, behind what stands ahead and ahead of what stands behind.
func TestThereAndBack(t *testing.T) {
	r := rand.New(rand.NewSource(4))
	for range 400 {
		ahead, behind := some(r, r.Intn(5)), some(r, r.Intn(5))
		b := ahead
		var checks []func(at int) int
		for range r.Intn(12) {
			v, size, s := anyNumber(r), sizes()[r.Intn(4)], some(r, r.Intn(300))
			if r.Intn(2) == 0 {
				v >>= 64 - 8*size
				part, err := Num(v, size)
				if err != api.OK {
					t.Fatal(v, size, err)
				}
				b += part
				checks = append(checks, func(at int) int { takeIs(t, b+behind, at, size, v, at+size, api.OK); return at + size })
			} else {
				part, err := Text(s)
				if err != api.OK {
					t.Fatal(len(s), err)
				}
				b += part
				checks = append(checks, func(at int) int {
					cutIs(t, b+behind, at, len(s), s, at+2+len(s), api.OK)
					return at + 2 + len(s)
				})
			}
		}
		at := len(ahead)
		for _, check := range checks {
			at = check(at)
		}
		if at != len(b) {
			t.Fatal(at, len(b))
		}
	}
}

// P16.3, the other way round: what is told at a place, made again, is the bytes that stand there.
func TestBackAndThere(t *testing.T) {
	r := rand.New(rand.NewSource(5))
	numbers, texts := 0, 0
	for range 5000 {
		b := some(r, r.Intn(20)) + "\x00\x00" + some(r, r.Intn(300))
		for at := 0; at <= len(b); at += 1 + r.Intn(9) {
			size := sizes()[r.Intn(4)]
			if v, to, err := Take(b, at, size); err == api.OK {
				numbers++
				numIs(t, v, size, b[at:to], api.OK)
			}
			if s, to, err := Cut(b, at, 65535); err == api.OK {
				texts++
				textIs(t, s, b[at:to], api.OK)
			}
		}
	}
	if numbers < 10000 || texts < 1000 {
		t.Error(numbers, texts)
	}
}

// Ways: an error wraps which bytes it means, and is its number.
func TestMeans(t *testing.T) {
	long := strings.Repeat("x", 70000)
	for i, x := range []struct {
		do       func() error
		at, size int
		number   api.Errno
		told     string
	}{
		{func() error { _, err := spell(256, 1); return err }, 0, 7, api.ErrLong, "error 2 at 0, of 7 bytes"},
		{func() error { _, err := spell(1<<32, 4); return err }, 0, 4, api.ErrLong, "error 2 at 0, of 4 bytes"},
		{func() error { _, err := spell(uint64(len(long)), lead); return err }, 0, 6, api.ErrLong, "error 2 at 0, of 6 bytes"},
		{func() error { _, _, err := number("abcd", 3, 2); return err }, 3, 2, api.ErrForm, "error 11 at 3, of 2 bytes"},
		{func() error { _, _, err := number("abcd", -1, 8); return err }, -1, 8, api.ErrForm, "error 11 at -1, of 8 bytes"},
		{func() error { _, _, err := text("z\x00", 1, 9); return err }, 1, 2, api.ErrForm, "error 11 at 1, of 2 bytes"},
		{func() error { _, _, err := text("z\x00\x03ab", 1, 1); return err }, 3, 3, api.ErrForm, "error 11 at 3, of 3 bytes"},
		{func() error { _, _, err := text("z\x00\x03abc", 1, 2); return err }, 3, 3, api.ErrLong, "error 2 at 3, of 3 bytes"},
	} {
		var m misfit
		err := x.do()
		if !errors.As(err, &m) || m.at != x.at || m.size != x.size || !errors.Is(err, x.number) || why(err) != x.number || err.Error() != x.told {
			t.Error(i, err, m)
		}
	}
	for i, do := range []func() error{
		func() error { _, err := spell(1, 3); return err },
		func() error { _, _, err := number("abcd", 9, 3); return err },
	} {
		var m misfit
		if err := do(); err == nil || errors.As(err, &m) || why(err) != api.ErrArg { // a size means no bytes
			t.Error(i, err)
		}
	}
	if why(nil) != api.OK {
		t.Error(why(nil))
	}
}

// within tells whether a and b share memory.
func within(a, b string) bool {
	if a == "" || b == "" {
		return false
	}
	x, y := uintptr(unsafe.Pointer(unsafe.StringData(a))), uintptr(unsafe.Pointer(unsafe.StringData(b)))
	return x < y+uintptr(len(b)) && y < x+uintptr(len(a))
}

// What is told is new memory, of an argument and of another answer.
func TestNewMemory(t *testing.T) {
	for _, n := range []int{0, 1, 2, 33, 65535} {
		memory := []byte(strings.Repeat("m", n))
		s := unsafe.String(unsafe.SliceData(memory), n)
		b, _ := Text(s)
		c, _ := Text(s)
		got, _, _ := Cut(b, 0, n)
		again, _, _ := Cut(b, 0, n)
		if within(b, s) || within(b, c) || within(got, b) || within(got, again) {
			t.Error(n, "memory is shared")
		}
		whole := []byte(b)
		kept, _, _ := Cut(unsafe.String(&whole[0], len(whole)), 0, n)
		clear(whole)
		clear(memory)
		if want := strings.Repeat("m", n); b[2:] != want || got != want || kept != want {
			t.Error(n, "memory is kept")
		}
	}
	for _, size := range sizes() {
		b, _ := Num(7, size)
		c, _ := Num(7, size)
		if within(b, c) {
			t.Error(size, "memory is shared")
		}
	}
}

// What is handed in is not changed.
func TestUnchanged(t *testing.T) {
	r := rand.New(rand.NewSource(6))
	for range 300 {
		memory := []byte("\x00\x09" + some(r, 20))
		was := string(memory)
		b := unsafe.String(&memory[0], len(memory))
		Text(b)
		Take(b, 3, 8)
		Cut(b, 0, 9)
		Cut(b, 0, 8)
		if string(memory) != was {
			t.Fatal(was, memory)
		}
	}
}

// An answer hangs on the arguments alone: the same calls, in another order, tell the same.
func TestAlone(t *testing.T) {
	type call struct {
		b        string
		at, size int
	}
	r := rand.New(rand.NewSource(7))
	var calls []call
	for range 300 {
		calls = append(calls, call{"\x00" + some(r, r.Intn(12)), r.Intn(6), r.Intn(10)})
	}
	for range 5 {
		r.Shuffle(len(calls), func(i, j int) { calls[i], calls[j] = calls[j], calls[i] })
		for _, c := range calls {
			v, to, err := slowTake(c.b, c.at, c.size)
			takeIs(t, c.b, c.at, c.size, v, to, err)
			s, to, err := slowCut(c.b, c.at, c.size)
			cutIs(t, c.b, c.at, c.size, s, to, err)
		}
	}
}
