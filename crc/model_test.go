package crc

import (
	"math/rand"
	"testing"
)

// step is what the chapter's words do for one bit.
func step(number, bit uint32) uint32 {
	if number&1 != bit {
		return number>>1 ^ 0xedb88320
	}
	return number >> 1
}

// through is a number behind all bits of a text, as the chapter's words have it.
func through(number uint32, s string) uint32 {
	for i := range len(s) {
		for bit := range 8 {
			number = step(number, uint32(s[i])>>bit&1)
		}
	}
	return number
}

// slowSum is the sum of a text, reckoned bit by bit.
func slowSum(s string) uint32 { return ^through(0xffffffff, s) }

// back is the number that a step with a bit of nought makes n: the highest bit tells whether something was laid over.
func back(n uint32) uint32 {
	if n>>31 != 0 {
		return (n^0xedb88320)<<1 | 1
	}
	return n << 1
}

// ended is s with four bytes behind it that make its sum that one.
func ended(s string, sum uint32) string {
	n := ^sum
	for range 32 {
		n = back(n)
	}
	n ^= ^slowSum(s)
	return s + string([]byte{byte(n), byte(n >> 8), byte(n >> 16), byte(n >> 24)})
}

// laid is a text of n bytes, 4 at least, whose sum is that one, and no other thing is known of it.
func laid(r *rand.Rand, n int, sum uint32) string { return ended(some(r, n-4), sum) }

// some is a text of n bytes.
func some(r *rand.Rand, n int) string {
	b := make([]byte, n)
	r.Read(b)
	return string(b)
}

// change is what some bytes 00 make of each bit of a number, from the lowest on.
type change [32]uint32

// of is what they make of a number.
func (c change) of(n uint32) (out uint32) {
	for bit, made := range c {
		if n>>bit&1 != 0 {
			out ^= made
		}
	}
	return out
}

// then is c and d behind it.
func (c change) then(d change) (out change) {
	for bit, made := range c {
		out[bit] = d.of(made)
	}
	return out
}

// changeOf is the change of n bytes 00.
func changeOf(n int) change {
	var all, one change
	for bit := range 32 {
		all[bit] = 1 << bit
		one[bit] = through(1<<bit, "\x00")
	}
	for ; n > 0; n /= 2 {
		if n%2 != 0 {
			all = all.then(one)
		}
		one = one.then(one)
	}
	return all
}

// slowJoin is a put through n bytes 00, and b laid over it.
func slowJoin(a, b uint32, n int) uint32 {
	if n < 0 {
		return 0
	}
	return changeOf(n).of(a) ^ b
}

// The model's own parts are held against each other, so that a slip in one of them is not taken for one of the program.
func TestModel(t *testing.T) {
	r := rand.New(rand.NewSource(15))
	for i := range 300 {
		a, b, n := r.Uint32(), r.Uint32(), 4+r.Intn(40)
		s, behind := laid(r, 4+r.Intn(40), a), laid(r, n, b)
		if slowSum(s) != a || slowSum(behind) != b || len(behind) != n {
			t.Fatalf("%d: laid: %x of %x, %x of %x", i, slowSum(s), a, slowSum(behind), b)
		}
		if got, want := slowJoin(a, b, n), slowSum(s+behind); got != want {
			t.Fatalf("%d: slowJoin(%x, %x, %d): %x, not %x", i, a, b, n, got, want)
		}
		nought := make([]byte, i)
		if got, want := changeOf(i).of(a), through(a, string(nought)); got != want {
			t.Fatalf("changeOf(%d) of %x: %x, not %x", i, a, got, want)
		}
	}
}
