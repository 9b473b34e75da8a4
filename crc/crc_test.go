package crc

import (
	"hash/crc32"
	"math"
	"math/rand"
	"strings"
	"testing"
)

// sumIs holds Sum, and Next byte by byte, against a sum.
func sumIs(t *testing.T, s string, want uint32) {
	t.Helper()
	got := uint32(0)
	for i := range len(s) {
		got = Next(got, s[i])
	}
	if Sum(s) != want || got != want {
		if len(s) > 40 {
			s = s[:40] + " .."
		}
		t.Errorf("%q: Sum %08x, by Next %08x, not %08x", s, Sum(s), got, want)
	}
}

// joinIs holds Join against a sum.
func joinIs(t *testing.T, a, b uint32, n int, want uint32) {
	t.Helper()
	if got := Join(a, b, n); got != want {
		t.Errorf("Join(%08x, %08x, %d): %08x, not %08x", a, b, n, got, want)
	}
}

// edges are sums that stand out: none and all of their bits, the first and the last one alone.
func edges() []uint32 {
	return []uint32{0, 1, 7, 0x80, 0x7fffffff, 0x80000000, 0xedb88320, 0xfffffffe, 0xffffffff}
}

// P15.1: sums that are known elsewhere.
func TestSumKnown(t *testing.T) {
	sumIs(t, "", 0)
	sumIs(t, "123456789", 0xcbf43926)
	sumIs(t, "a", 0xe8b7be43)
	sumIs(t, "abc", 0x352441c2)
	sumIs(t, "The quick brown fox jumps over the lazy dog", 0x414fa339)
	sumIs(t, "\x00", 0xd202ef8d)
	sumIs(t, "\xff", 0xff000000)
	sumIs(t, "\x00\x00\x00\x00", 0x2144df1c)
	sumIs(t, "\xff\xff\xff\xff", 0xffffffff)
	sumIs(t, strings.Repeat("\x00", 32), 0x190a55ad)
	sumIs(t, strings.Repeat("\xff", 32), 0xff6cab0b)
}

// P15.1: each text of one byte and of two.
func TestSumShort(t *testing.T) {
	for i := range 256 {
		sumIs(t, string([]byte{byte(i)}), slowSum(string([]byte{byte(i)})))
	}
	for i := range 65536 {
		s := string([]byte{byte(i >> 8), byte(i)})
		sumIs(t, s, slowSum(s))
	}
}

// P15.1: texts of any bytes and of many lengths, against sums reckoned bit by bit and against another maker's.
func TestSumLong(t *testing.T) {
	r := rand.New(rand.NewSource(1))
	for n := range 600 {
		s := some(r, n)
		want := slowSum(s)
		sumIs(t, s, want)
		if other := crc32.ChecksumIEEE([]byte(s)); other != want {
			t.Fatalf("%q: %x, %x", s, want, other)
		}
	}
	for _, n := range []int{4095, 4096, 4097, 65535, 65536, 1 << 20} {
		s := some(r, n)
		sumIs(t, s, crc32.ChecksumIEEE([]byte(s)))
		sumIs(t, strings.Repeat("\x00", n), slowSum(strings.Repeat("\x00", n)))
	}
	sumIs(t, "żółw, 表, \xc3\x28", slowSum("żółw, 表, \xc3\x28"))
}

// P15.1: a piece of a text counts alone, wherever it lies.
func TestSumPiece(t *testing.T) {
	s := "0123456789abcdef"
	for from := range len(s) {
		for to := from; to <= len(s); to++ {
			sumIs(t, s[from:to], slowSum(s[from:to]))
		}
	}
}

// P15.1: Next behind each beginning of a text is the sum of one byte more.
func TestNextAlong(t *testing.T) {
	s := some(rand.New(rand.NewSource(2)), 700)
	for i := range len(s) {
		if got, want := Next(Sum(s[:i]), s[i]), Sum(s[:i+1]); got != want || got != slowSum(s[:i+1]) {
			t.Fatalf("behind %d bytes: %08x, not %08x", i, got, want)
		}
	}
}

// P15.1: any number of 32 bits is a sum, and any byte may come behind it.
func TestNextAnySum(t *testing.T) {
	r := rand.New(rand.NewSource(3))
	sums := edges()
	for bit := range 32 {
		sums = append(sums, 1<<bit, ^uint32(1<<bit))
	}
	for range 200 {
		sums = append(sums, r.Uint32())
	}
	for _, sum := range sums {
		s := laid(r, 4+r.Intn(9), sum)
		sumIs(t, s, sum)
		for i := range 256 {
			b := byte(i)
			if got, want := Next(sum, b), slowSum(s+string([]byte{b})); got != want {
				t.Errorf("Next(%08x, %02x): %08x, not %08x", sum, b, got, want)
			}
		}
	}
}

// P15.1: the parts of one text, cut at each place.
func TestJoinParts(t *testing.T) {
	r := rand.New(rand.NewSource(4))
	for _, s := range []string{"", "a", "123456789", strings.Repeat("\x00", 70), strings.Repeat("\xff", 70), some(r, 300)} {
		for at := range len(s) + 1 {
			joinIs(t, Sum(s[:at]), Sum(s[at:]), len(s)-at, Sum(s))
		}
	}
}

// P15.1: three parts, joined from either side.
func TestJoinThree(t *testing.T) {
	s := some(rand.New(rand.NewSource(5)), 40)
	for i := range len(s) + 1 {
		for j := i; j <= len(s); j++ {
			a, b, c := Sum(s[:i]), Sum(s[i:j]), Sum(s[j:])
			joinIs(t, Join(a, b, j-i), c, len(s)-j, Sum(s))
			joinIs(t, a, Join(b, c, len(s)-j), len(s)-i, Sum(s))
		}
	}
}

// P15.1: a byte joined is the next one.
func TestJoinByte(t *testing.T) {
	r := rand.New(rand.NewSource(6))
	for i := range 256 {
		for _, sum := range append(edges(), r.Uint32(), r.Uint32()) {
			joinIs(t, sum, Sum(string([]byte{byte(i)})), 1, Next(sum, byte(i)))
		}
	}
}

// P15.1: two texts of any sums, that are laid and summed whole.
func TestJoinLaid(t *testing.T) {
	r := rand.New(rand.NewSource(7))
	for i := range 1000 {
		a, b := r.Uint32(), r.Uint32()
		if l := edges(); i < len(l)*len(l) {
			a, b = l[i/len(l)], l[i%len(l)]
		}
		s, behind := laid(r, 4+r.Intn(60), a), laid(r, 4+r.Intn(400), b)
		joinIs(t, a, b, len(behind), slowSum(s+behind))
	}
}

// P15.1: an empty text on either side.
func TestJoinEmpty(t *testing.T) {
	r := rand.New(rand.NewSource(8))
	for _, sum := range append(edges(), r.Uint32(), r.Uint32()) {
		joinIs(t, sum, Sum(""), 0, sum)
		for _, n := range []int{1, 2, 3, 4, 5, 4096, math.MaxInt32, math.MaxInt} {
			joinIs(t, Sum(""), sum, n, sum)
		}
		joinIs(t, Sum(""), sum, 0, sum)
	}
}

// P15.1: no text has fewer than no bytes.
func TestJoinBelow(t *testing.T) {
	r := rand.New(rand.NewSource(9))
	for _, n := range []int{-1, -2, -3, -8, -4096, math.MinInt32, math.MinInt32 - 1, math.MinInt + 1, math.MinInt} {
		for _, a := range append(edges(), r.Uint32()) {
			joinIs(t, a, r.Uint32(), n, 0)
			joinIs(t, a, a, n, 0)
			joinIs(t, a, 0, n, 0)
		}
	}
}

// P15.1: any n from 0 on, far longer ones than can be laid among them.
func TestJoinFar(t *testing.T) {
	r := rand.New(rand.NewSource(10))
	lengths := []int{0, 1, 2, 3, 1<<32 - 2, 1<<32 - 1, 1 << 32, 1<<60 + 1, 1<<61 - 1, 1 << 61, math.MaxInt - 1, math.MaxInt}
	for bit := range 63 {
		lengths = append(lengths, 1<<bit, 1<<bit-1)
	}
	for range 300 {
		lengths = append(lengths, int(r.Int63()>>r.Intn(63)))
	}
	for _, n := range lengths {
		for _, a := range append(edges(), r.Uint32()) {
			b := r.Uint32()
			joinIs(t, a, b, n, slowJoin(a, b, n))
		}
	}
}

// P15.1: bytes 00 that are laid, many of them, and a period: 2^32 - 1 of them bring each number back.
func TestJoinNoughts(t *testing.T) {
	nought := strings.Repeat("\x00", 1<<20)
	for _, n := range []int{1, 255, 256, 4096, 99999, 1 << 20} {
		s := "cells and sums"
		joinIs(t, Sum(s), Sum(nought[:n]), n, Sum(s+nought[:n]))
	}
	for _, sum := range edges() {
		joinIs(t, sum, 0, 1<<32-1, sum)
		joinIs(t, sum, 5, math.MaxInt, Join(sum, 5, math.MaxInt%(1<<32-1)))
	}
}

// differs holds the sum of s against that of s with the bits of pattern turned, from that bit on; bits go from the lowest of each byte.
func differs(t *testing.T, s string, from int, pattern uint32) {
	t.Helper()
	other := []byte(s)
	for i := range 32 {
		if pattern>>i&1 != 0 {
			other[(from+i)/8] ^= 1 << ((from + i) % 8)
		}
	}
	if Sum(s) == Sum(string(other)) {
		t.Errorf("%q and %q: both %08x", s, other, Sum(s))
	}
}

// P15.2: some bits of one stretch of 32 turned.
func TestStretch(t *testing.T) {
	r := rand.New(rand.NewSource(11))
	for n := 4; n < 40; n++ {
		s := some(r, n)
		for from := 0; from <= 8*n-32; from++ {
			differs(t, s, from, 0xffffffff)
			for bit := range 32 {
				differs(t, s, from, 1<<bit)
				differs(t, s, from, 1<<bit|1)
				differs(t, s, from, 1<<bit|r.Uint32())
			}
		}
	}
}

// P15.2: all ways to turn some of 16 bits, at the beginning, in the midst and at the end.
func TestStretchAll(t *testing.T) {
	s := some(rand.New(rand.NewSource(12)), 9)
	for _, from := range []int{0, 3, 40} {
		for pattern := range uint32(65536) {
			if pattern != 0 {
				differs(t, s, from, pattern)
				differs(t, s, from, pattern<<16)
				differs(t, s, from, pattern<<16|pattern)
			}
		}
	}
}

// P15.2: a text that is shorter than a stretch: all of two bytes have unlike sums.
func TestStretchShort(t *testing.T) {
	elder := map[uint32]int{}
	for i := range 65536 {
		sum := Sum(string([]byte{byte(i >> 8), byte(i)}))
		if j, there := elder[sum]; there {
			t.Errorf("%04x and %04x: both %08x", j, i, sum)
		}
		elder[sum] = i
	}
}

// P15.2: all sums of four bytes are unlike, so that a text of four is known by its sum: each is told back.
func TestStretchBack(t *testing.T) {
	r := rand.New(rand.NewSource(13))
	for range 20000 {
		s := some(r, 4)
		if got := ended("", Sum(s)); got != s {
			t.Fatalf("%q: %q has the sum %08x too", s, got, Sum(s))
		}
	}
}

// P15.1: what four bits make is four steps of the chapter's words.
func TestFours(t *testing.T) {
	for i, got := range fours {
		want := uint32(i)
		for range 4 {
			want = step(want, 0)
		}
		if got != want {
			t.Errorf("fours of %d: %08x, not %08x", i, got, want)
		}
	}
	if len(fours) != 16 {
		t.Error(len(fours))
	}
}

// P15.1: what was asked before changes no answer.
func TestAgain(t *testing.T) {
	for range 3 {
		sumIs(t, "123456789", 0xcbf43926)
		joinIs(t, Sum("1234"), Sum("56789"), 5, 0xcbf43926)
		joinIs(t, 1, 2, -1, 0)
	}
}
