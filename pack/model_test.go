package pack

import (
	"encoding/binary"
	"math/big"
	"math/rand"
	"strings"

	"pannier/api"
)

// digits is how often a number has to be divided by 256 till nothing is left: how many bytes it needs.
func digits(v uint64) int {
	n := 0
	for ; v != 0; v /= 256 {
		n++
	}
	return n
}

// slowNum is what Num is to tell: the digits to the base 256 that the library's big numbers have, with noughts ahead of them.
func slowNum(v uint64, size int) (string, api.Errno) {
	if !strings.Contains(" 1 2 4 8 ", " "+big.NewInt(int64(size)).String()+" ") {
		return "", api.ErrArg
	}
	if digits(v) > size {
		return "", api.ErrLong
	}
	return string(new(big.Int).SetUint64(v).FillBytes(make([]byte, size))), api.OK
}

// slowText is what Text is to tell.
func slowText(s string) (string, api.Errno) {
	if len(s) > 65535 {
		return "", api.ErrLong
	}
	return string(binary.BigEndian.AppendUint16(nil, uint16(len(s)))) + s, api.OK
}

// rest is what of b stands from at on; false, if at is no place of b.
func rest(b string, at int) (string, bool) {
	if at < 0 || at > len(b) {
		return "", false
	}
	return b[at:], true
}

// slowTake is what Take is to tell.
func slowTake(b string, at, size int) (uint64, int, api.Errno) {
	if size != 1 && size != 2 && size != 4 && size != 8 {
		return 0, 0, api.ErrArg
	}
	s, ok := rest(b, at)
	if !ok || len(s) < size {
		return 0, 0, api.ErrForm
	}
	eight := append(make([]byte, 8-size), s[:size]...)
	return binary.BigEndian.Uint64(eight), at + size, api.OK
}

// slowCut is what Cut is to tell.
func slowCut(b string, at, most int) (string, int, api.Errno) {
	s, ok := rest(b, at)
	if !ok || len(s) < 2 {
		return "", 0, api.ErrForm
	}
	n := 256*int(s[0]) + int(s[1])
	if len(s) < 2+n {
		return "", 0, api.ErrForm
	}
	if n > most {
		return "", 0, api.ErrLong
	}
	return s[2 : 2+n], at + 2 + n, api.OK
}

// some is a text of n bytes.
func some(r *rand.Rand, n int) string {
	b := make([]byte, n)
	r.Read(b)
	return string(b)
}

// anyNumber is a number of as many bits as it falls.
func anyNumber(r *rand.Rand) uint64 { return r.Uint64() >> r.Intn(65) }

// brief is a text for a message.
func brief(s string) string {
	if len(s) > 40 {
		return s[:40] + " .."
	}
	return s
}
