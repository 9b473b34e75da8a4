package num

import (
	"math"
	"math/big"
	"strings"
	"testing"
)

const (
	least = math.MinInt64
	most  = math.MaxInt64
)

// edges are numbers at which signs turn, products grow too great, or digits become more.
func edges() []int64 {
	l := []int64{0, least, least + 1, least + 2, least / 2, least/2 - 1, most, most - 1, most / 2, most/2 + 1}
	for _, n := range []int64{1, 2, 3, 6, 7, 9, 10, 12, 99, 100, 1 << 31, 1<<31 - 1, 1 << 32, 1<<32 + 1, 3037000499, 3037000500, 1000000007, 999999999999999999, 1000000000000000000} {
		l = append(l, n, -n)
	}
	return l
}

// wanted is what a call must answer whose true answer is n (nil, if there is none).
func wanted(n *big.Int) (int64, bool) {
	if n == nil || !n.IsInt64() {
		return 0, false
	}
	return n.Int64(), true
}

type call func(a, b int64) (int64, bool)

// agree holds f against the true answer over all pairs of as and bs.
func agree(t *testing.T, name string, f call, truth func(a, b *big.Int) *big.Int, as, bs []int64) {
	t.Helper()
	for _, a := range as {
		for _, b := range bs {
			want, fits := wanted(truth(big.NewInt(a), big.NewInt(b)))
			if n, ok := f(a, b); n != want || ok != fits {
				t.Errorf("%s(%d, %d): %d %v, not %d %v", name, a, b, n, ok, want, fits)
			}
		}
	}
}

// P1.1: the sum, the difference, the product; false, if it is no int64.
func TestSumsAndProducts(t *testing.T) {
	l := edges()
	agree(t, "Add", Add, func(a, b *big.Int) *big.Int { return a.Add(a, b) }, l, l)
	agree(t, "Sub", Sub, func(a, b *big.Int) *big.Int { return a.Sub(a, b) }, l, l)
	agree(t, "Mul", Mul, func(a, b *big.Int) *big.Int { return a.Mul(a, b) }, l, l)
}

// quotient is a by b, cut towards 0; nil, if there is none or it is no int64.
func quotient(a, b *big.Int) *big.Int {
	if b.Sign() == 0 {
		return nil
	}
	q := new(big.Int).Quo(a, b)
	if !q.IsInt64() {
		return nil
	}
	return q
}

// P1.1: Div is cut towards 0, Mod is what it leaves; a divisor 0, a quotient that is no int64.
func TestQuotients(t *testing.T) {
	l := edges()
	agree(t, "Div", Div, quotient, l, l)
	agree(t, "Mod", Mod, func(a, b *big.Int) *big.Int {
		q := quotient(a, b)
		if q == nil {
			return nil
		}
		return a.Sub(a, q.Mul(q, b))
	}, l, l)
}

// P1.1: a multiplied b times; 1, if b is 0; false, if b is below 0, or it is no int64.
func TestPowers(t *testing.T) {
	var exponents []int64
	for b := int64(-3); b <= 70; b++ {
		exponents = append(exponents, b)
	}
	agree(t, "Pow", Pow, func(a, b *big.Int) *big.Int {
		if b.Sign() < 0 {
			return nil
		}
		return a.Exp(a, b, nil)
	}, append(edges(), 4, -4, 5, -5, 8, -8), exponents)
}

// P1.1, and that Pow ends: exponents too great to be gone through one by one.
func TestPowersOfGreatExponents(t *testing.T) {
	for _, x := range []struct {
		a, b, n int64
		ok      bool
	}{
		{0, most, 0, true},
		{0, most - 1, 0, true},
		{1, most, 1, true},
		{-1, most, -1, true},
		{-1, most - 1, 1, true},
		{2, most, 0, false},
		{-2, most, 0, false},
		{least, most, 0, false},
		{0, least, 0, false},
		{1, least, 0, false},
		{-1, -1, 0, false},
	} {
		if n, ok := Pow(x.a, x.b); n != x.n || ok != x.ok {
			t.Errorf("Pow(%d, %d): %d %v, not %d %v", x.a, x.b, n, ok, x.n, x.ok)
		}
	}
}

// P1.1: the greatest number that divides both; 0 of 0 and 0; false, if it is no int64.
func TestGcd(t *testing.T) {
	l := edges()
	agree(t, "Gcd", Gcd, func(a, b *big.Int) *big.Int { return a.GCD(nil, nil, a.Abs(a), b.Abs(b)) }, l, l)
	for _, x := range []struct {
		a, b, n int64
		ok      bool
	}{{0, 0, 0, true}, {0, -5, 5, true}, {-12, 18, 6, true}, {least, 0, 0, false}, {0, least, 0, false}, {least, least, 0, false}, {least, 12, 4, true}} {
		if n, ok := Gcd(x.a, x.b); n != x.n || ok != x.ok {
			t.Errorf("Gcd(%d, %d): %d %v, not %d %v", x.a, x.b, n, ok, x.n, x.ok)
		}
	}
}

// P1.2: Dec is the digits, - ahead of what is below 0; Parse takes it back.
func TestDec(t *testing.T) {
	for n, want := range map[int64]string{0: "0", 7: "7", -7: "-7", 10: "10", -100: "-100", most: "9223372036854775807", least: "-9223372036854775808"} {
		if s := Dec(n); s != want {
			t.Errorf("Dec(%d): %q, not %q", n, s, want)
		}
	}
	for _, a := range edges() {
		s := Dec(a)
		if want := big.NewInt(a).String(); s != want {
			t.Errorf("Dec(%d): %q, not %q", a, s, want)
		}
		if n, ok := Parse(s); n != a || !ok {
			t.Errorf("Parse(%q): %d %v", s, n, ok)
		}
	}
}

// P1.2: false of each text that is no number's Dec.
func TestParseOfOtherTexts(t *testing.T) {
	l := []string{
		"9223372036854775808", "-9223372036854775809", "9223372036854775810", "18446744073709551616", "99999999999999999999", "-99999999999999999999",
		"0009223372036854775807", "-09223372036854775808", "+9223372036854775807",
		"1e3", "1.0", "0x5", "0b1", "0o7", "5_0", "1,000", "\u22125", "\u0665", "\uff15", "5\x00", "\x005", "5\n", "\xff", "TRUE", "nan",
		strings.Repeat("9", 1<<20), strings.Repeat("0", 1<<20), "-" + strings.Repeat("1", 1<<20),
	}
	for _, s := range l {
		if n, ok := Parse(s); n != 0 || ok {
			t.Errorf("Parse(%.40q): %d %v", s, n, ok)
		}
	}
}

// numeral tells by the letter of Dec whether a short s is some number's.
func numeral(s string) bool {
	digits := strings.TrimPrefix(s, "-")
	if digits == "" || strings.Trim(digits, "0123456789") != "" {
		return false
	}
	return s == "0" || digits[0] != '0'
}

// P1.2: all short texts of bytes that numbers are near to.
func TestParseOfShortTexts(t *testing.T) {
	const letters = "0159-+ _.xe\x00\x80"
	texts := []string{""}
	for from := 0; len(texts[from]) < 4; from++ {
		for i := range len(letters) {
			texts = append(texts, texts[from]+letters[i:i+1])
		}
	}
	for _, s := range texts {
		n, ok := Parse(s)
		if ok != numeral(s) || ok && Dec(n) != s || !ok && n != 0 {
			t.Errorf("Parse(%q): %d %v", s, n, ok)
		}
	}
}

// P1.3: what is added is taken away again; a is b times Div and Mod together.
func TestThereAndBack(t *testing.T) {
	for _, a := range edges() {
		for _, b := range edges() {
			if sum, ok := Add(a, b); ok {
				if n, ok := Sub(sum, b); n != a || !ok {
					t.Errorf("%d and %d, less %d: %d %v", a, b, b, n, ok)
				}
			}
			div, ok := Div(a, b)
			mod, left := Mod(a, b)
			if ok != left {
				t.Errorf("%d by %d: Div %v, Mod %v", a, b, ok, left)
			}
			if ok && b*div+mod != a {
				t.Errorf("%d by %d: Div %d, Mod %d", a, b, div, mod)
			}
		}
	}
}
