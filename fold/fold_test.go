package fold

import (
	"fmt"
	"math"
	"math/big"
	"math/rand"
	"slices"
	"strings"
	"testing"
	"unsafe"

	"pannier/api"
	"pannier/value"
)

func integer(n int64) api.Value { return api.Value{Kind: api.Int, N: n} }

func boolean(n int64) api.Value { return api.Value{Kind: api.Bool, N: n} }

func words(s string) api.Value { return api.Value{Kind: api.Text, S: s} }

func fault(code int64) api.Value { return api.Value{Kind: api.Fault, N: code} }

// void is the good Empty.
var void = api.Value{}

// names are those of all functions that Of has.
var names = []string{"SUM", "PRODUCT", "MIN", "MAX", "AVG", "AND", "OR", "JOIN", "COUNT", "COUNTA"}

// integers are Ints, one behind the other.
func integers(l ...int64) (values []api.Value) {
	for _, n := range l {
		values = append(values, integer(n))
	}
	return values
}

// list is values, one behind the other.
func list(l ...api.Value) []api.Value { return l }

// top and bottom are the ends of the numbers.
const top, bottom = math.MaxInt64, math.MinInt64

// fullText and overText are as long as a Text may be, and one byte longer.
var fullText, overText = strings.Repeat("m", 200), strings.Repeat("m", 201)

// numbers are Ints, truths and texts, each of which is a number.
func numbers() []api.Value {
	l := integers(0, 1, -1, 2, -3, 7, 1<<31, 1<<32, -1<<32, 3037000499, 3037000500, 1<<62, top-1, top, bottom+1, bottom)
	return append(l, boolean(0), boolean(1), words("0"), words("-2"), words("12"), words("9223372036854775807"), words("-9223372036854775808"))
}

// others are good values that are no number, or no truth, or neither.
func others() []api.Value {
	return list(words(""), words("TRUE"), words("FALSE"), words("true"), words("x"), words("01"), words("+1"), words(" 1"), words("1.5"), words("-"), words("-0"), words("9223372036854775808"), words("\x00"), words("\u00e9"), words("#DIV"), words(fullText), words(fullText[:199]), words(fullText[:100]))
}

// faults are all that are good.
func faults() (l []api.Value) {
	for code := int64(1); code <= 8; code++ {
		l = append(l, fault(code))
	}
	return l
}

// crooked are values that are not good, and not Empty.
func crooked() []api.Value {
	return []api.Value{
		boolean(2), boolean(-1), {Kind: api.Bool, N: 1, S: "a"}, {Kind: api.Int, N: 3, S: "a"}, {Kind: api.Int, S: "\x00"}, {Kind: api.Text, N: 1, S: "12"}, {Kind: api.Text, N: -1, S: "TRUE"}, words(overText),
		fault(0), fault(9), fault(-1), fault(bottom), {Kind: api.Fault, N: api.Div, S: "a"}, {Kind: 5}, {Kind: -1, N: 1}, {Kind: 6, S: "1"}, {Kind: 256}, {Kind: 258, N: 4}, {Kind: 1 << 32}, {Kind: 1<<32 + 2, N: 1}, {Kind: math.MinInt}, {Kind: math.MaxInt},
	}
}

// voids are values whose Kind is Empty, whatever else they have.
func voids() []api.Value {
	return []api.Value{void, {N: 5}, {N: -1}, {N: top}, {N: bottom}, {S: "x"}, {S: "1"}, {N: 1, S: "TRUE"}, {S: overText}}
}

// all are values of all sorts.
func all() []api.Value { return slices.Concat(voids(), numbers(), others(), faults(), crooked()) }

// brief is the beginning of a value or a list as it is printed.
func brief(x any) string {
	s := fmt.Sprintf("%q", fmt.Sprint(x))
	return s[:min(len(s), 200)]
}

// is holds Of's answer against the one that must be.
func is(t *testing.T, name string, l []api.Value, want api.Value) {
	t.Helper()
	if got, ok := Of(name, l); got != want || !ok {
		t.Errorf("%s of %s: %s %v, not %s", name, brief(l), brief(got), ok, brief(want))
	}
}

// example is a function's answer of a list.
type example struct {
	l    []api.Value
	want api.Value
}

// hold holds a function's examples, as they stand and with Empty values ahead, between and behind (P10.3).
func hold(t *testing.T, name string, l []example) {
	t.Helper()
	for _, x := range l {
		is(t, name, x.l, x.want)
		is(t, name, strewn(x.l, void), x.want)
		is(t, name, strewn(x.l, voids()...), x.want)
	}
}

// strewn is l with those values ahead of each of it, and behind it.
func strewn(l []api.Value, among ...api.Value) (mixed []api.Value) {
	for _, v := range l {
		mixed = append(append(mixed, among...), v)
	}
	return append(mixed, among...)
}

// P10.1: SUM adds the numbers, one behind the other.
func TestSum(t *testing.T) {
	hold(t, "SUM", []example{
		{nil, integer(0)}, {list(void), integer(0)}, {integers(5), integer(5)}, {integers(-5), integer(-5)}, {integers(0), integer(0)}, {list(words("2")), integer(2)}, {list(boolean(1)), integer(1)}, {list(boolean(0)), integer(0)},
		{integers(1, 2, 3), integer(6)}, {integers(1, -2), integer(-1)}, {integers(7, 7, 7, 7), integer(28)}, {list(integer(1), words("2"), void, boolean(1)), integer(4)}, {list(words("-12"), words("2"), integer(-1)), integer(-11)}, {list(boolean(1), boolean(1)), integer(2)},
		{integers(top), integer(top)}, {integers(bottom), integer(bottom)}, {integers(top, 0), integer(top)}, {integers(top-1, 1), integer(top)}, {integers(1, top-1), integer(top)}, {integers(bottom+1, -1), integer(bottom)}, {integers(top, bottom), integer(-1)}, {integers(bottom, top, 1), integer(0)}, {integers(top, -1, 1), integer(top)}, {integers(1<<62, 1<<62-1), integer(top)}, {integers(-1<<62, -1<<62), integer(bottom)},
		{list(words("9223372036854775807"), words("-9223372036854775808")), integer(-1)},
	})
	fails(t, "SUM", []example{
		{integers(top, 1), fault(api.Over)}, {integers(1, top), fault(api.Over)}, {integers(bottom, -1), fault(api.Over)}, {integers(-1, bottom), fault(api.Over)}, {integers(1<<62, 1<<62), fault(api.Over)}, {integers(-1<<62, -1<<62, -1), fault(api.Over)}, {integers(top, top), fault(api.Over)}, {integers(bottom, bottom), fault(api.Over)},
		{integers(top, 1, -1), fault(api.Over)}, {integers(bottom, -1, 1), fault(api.Over)}, {integers(top, top, bottom, bottom), fault(api.Over)}, {list(integer(top), boolean(1)), fault(api.Over)}, {list(integer(top), words("1"), integer(-1)), fault(api.Over)},
	})
	wrongNumbers(t, "SUM")
}

// fails holds examples that come to a fault: at once, whatever is behind.
func fails(t *testing.T, name string, l []example) {
	t.Helper()
	hold(t, name, l)
	for _, x := range l {
		if x.want.Kind != api.Fault {
			t.Errorf("%s of %s: no fault", name, brief(x.l))
		}
		for _, v := range all() {
			is(t, name, append(slices.Clone(x.l), v), x.want)
		}
	}
}

// wrongNumbers holds what a function of numbers answers of what is none: the first fault there is.
func wrongNumbers(t *testing.T, name string) {
	t.Helper()
	for _, v := range slices.Concat(others(), crooked()) {
		fails(t, name, []example{{list(v), fault(api.Type)}, {list(integer(1), v), fault(api.Type)}, {list(words("0"), boolean(1), v), fault(api.Type)}})
	}
	for _, v := range faults() {
		fails(t, name, []example{{list(v), v}, {list(integer(1), v), v}, {list(words("0"), boolean(1), v), v}})
	}
}

// P10.1: PRODUCT multiplies them.
func TestProduct(t *testing.T) {
	hold(t, "PRODUCT", []example{
		{nil, integer(1)}, {list(void), integer(1)}, {integers(5), integer(5)}, {integers(0), integer(0)}, {list(words("-2")), integer(-2)}, {list(boolean(1)), integer(1)}, {list(boolean(0)), integer(0)},
		{integers(3, -4), integer(-12)}, {integers(2, 3, 5), integer(30)}, {integers(-2, -3), integer(6)}, {integers(-1, -1, -1), integer(-1)}, {list(integer(6), words("7"), boolean(1)), integer(42)}, {list(words("6"), words("7"), void), integer(42)}, {integers(2, 3, 0, 5), integer(0)},
		{integers(top), integer(top)}, {integers(bottom), integer(bottom)}, {integers(bottom, 1), integer(bottom)}, {integers(top, -1), integer(bottom + 1)}, {integers(-1<<62, 2), integer(bottom)}, {integers(1<<32, -1<<31), integer(bottom)}, {integers(0, top, top), integer(0)}, {integers(0, bottom, -1), integer(0)}, {integers(3037000499, 3037000499), integer(9223372030926249001)}, {integers(7, 7, 73, 127, 337, 92737, 649657), integer(top)},
	})
	fails(t, "PRODUCT", []example{
		{integers(bottom, -1), fault(api.Over)}, {integers(-1, bottom), fault(api.Over)}, {integers(top, 2), fault(api.Over)}, {integers(1<<62, 2), fault(api.Over)}, {integers(1<<32, 1<<31), fault(api.Over)}, {integers(3037000500, 3037000500), fault(api.Over)}, {integers(1<<32, 1<<32), fault(api.Over)}, {integers(top, top), fault(api.Over)}, {integers(bottom, bottom), fault(api.Over)}, {integers(-1<<62, -2), fault(api.Over)},
		{integers(1<<32, 1<<32, 0), fault(api.Over)}, {integers(bottom, -1, -1), fault(api.Over)}, {list(words("9223372036854775807"), integer(2), boolean(0)), fault(api.Over)},
	})
	wrongNumbers(t, "PRODUCT")
}

// P10.1: MIN and MAX tell an end of the numbers; of none the fault None.
func TestMinAndMax(t *testing.T) {
	for _, x := range []struct {
		l           []api.Value
		least, most int64
	}{
		{integers(5), 5, 5}, {integers(0), 0, 0}, {integers(-5), -5, -5}, {integers(3, -7), -7, 3}, {integers(-7, 3), -7, 3}, {integers(-3, -9), -9, -3}, {integers(3, 9, 5), 3, 9}, {integers(4, 4), 4, 4}, {integers(1, 2, 3), 1, 3}, {integers(3, 2, 1), 1, 3},
		{list(words("-7")), -7, -7}, {list(boolean(1)), 1, 1}, {list(boolean(0)), 0, 0}, {list(integer(3), words("-7"), boolean(0)), -7, 3}, {list(words("9"), words("10")), 9, 10}, {list(boolean(1), boolean(0)), 0, 1}, {list(boolean(1), integer(1<<32)), 1, 1 << 32},
		{integers(top), top, top}, {integers(bottom), bottom, bottom}, {integers(top, bottom), bottom, top}, {integers(bottom, top), bottom, top}, {integers(0, bottom), bottom, 0}, {integers(top, 0), 0, top}, {integers(top-1, top), top - 1, top}, {integers(bottom+1, bottom), bottom, bottom + 1},
	} {
		hold(t, "MIN", []example{{x.l, integer(x.least)}})
		hold(t, "MAX", []example{{x.l, integer(x.most)}})
	}
	for _, name := range []string{"MIN", "MAX"} {
		hold(t, name, []example{{nil, fault(api.None)}, {list(void), fault(api.None)}})
		wrongNumbers(t, name)
	}
}

// P10.1: AVG is SUM by how many there are, cut towards 0; of none the fault Div.
func TestAvg(t *testing.T) {
	hold(t, "AVG", []example{
		{nil, fault(api.Div)}, {list(void), fault(api.Div)}, {integers(5), integer(5)}, {integers(0), integer(0)}, {integers(-5), integer(-5)}, {list(words("12")), integer(12)}, {list(boolean(1)), integer(1)},
		{integers(2, 4), integer(3)}, {integers(3, 4), integer(3)}, {integers(-3, -4), integer(-3)}, {integers(1, 1, 0), integer(0)}, {integers(-1, -1, 0), integer(0)}, {integers(1, 2, 2), integer(1)}, {integers(-1, -2, -2), integer(-1)}, {integers(1, -1), integer(0)}, {integers(1, 2, 3, 4), integer(2)}, {list(integer(3), words("4"), boolean(1)), integer(2)}, {list(boolean(1), boolean(0)), integer(0)},
		{integers(top), integer(top)}, {integers(bottom), integer(bottom)}, {integers(bottom, 0), integer(-1 << 62)}, {integers(top, 0), integer(1<<62 - 1)}, {integers(top, bottom), integer(0)}, {integers(top, bottom, bottom+1), integer(-3074457345618258602)}, {integers(bottom, top, bottom+1), integer(-3074457345618258602)},
	})
	fails(t, "AVG", []example{{integers(top, 1), fault(api.Over)}, {integers(top, top), fault(api.Over)}, {integers(bottom, -1), fault(api.Over)}, {integers(top, 1, -1), fault(api.Over)}, {integers(bottom, -1, 1), fault(api.Over)}, {integers(top, bottom, bottom), fault(api.Over)}})
	wrongNumbers(t, "AVG")
}

// P10.1: AND tells whether all are true, OR whether one is; a fault goes wherever it stands.
func TestAndAndOr(t *testing.T) {
	for _, x := range []struct {
		l       []api.Value
		and, or int64
	}{
		{nil, 1, 0}, {list(void), 1, 0}, {list(boolean(1)), 1, 1}, {list(boolean(0)), 0, 0}, {integers(0), 0, 0}, {integers(1), 1, 1}, {integers(5), 1, 1}, {integers(-1), 1, 1}, {integers(top), 1, 1}, {integers(bottom), 1, 1}, {integers(1 << 32), 1, 1}, {list(words("TRUE")), 1, 1}, {list(words("FALSE")), 0, 0},
		{list(boolean(1), boolean(1)), 1, 1}, {list(boolean(1), boolean(0)), 0, 1}, {list(boolean(0), boolean(1)), 0, 1}, {list(boolean(0), boolean(0)), 0, 0}, {list(boolean(0), boolean(0), boolean(0)), 0, 0}, {list(boolean(1), boolean(0), boolean(1)), 0, 1}, {list(boolean(0), boolean(1), boolean(0)), 0, 1},
		{list(boolean(1), integer(5), words("TRUE")), 1, 1}, {list(boolean(0), integer(0), words("FALSE")), 0, 0}, {list(words("TRUE"), integer(0)), 0, 1}, {list(integer(0), words("TRUE")), 0, 1}, {list(words("FALSE"), integer(2)), 0, 1}, {list(boolean(1), integer(-7), words("FALSE")), 0, 1},
	} {
		hold(t, "AND", []example{{x.l, boolean(x.and)}})
		hold(t, "OR", []example{{x.l, boolean(x.or)}})
	}
	for _, name := range []string{"AND", "OR"} {
		for _, v := range append(faults(), fault(0)) {
			want := v
			if v.N == 0 {
				want = fault(api.Type)
			}
			for _, ahead := range [][]api.Value{nil, list(boolean(0)), list(boolean(1)), list(integer(0), words("TRUE")), list(words("TRUE"), boolean(0), integer(7))} {
				fails(t, name, []example{{append(ahead, v), want}})
			}
		}
		for _, v := range slices.Concat(crooked(), list(words(""), words("1"), words("0"), words("true"), words("True"), words("TRUE "), words("x"), words(fullText))) {
			fails(t, name, []example{{list(v), fault(api.Type)}, {list(boolean(0), v), fault(api.Type)}, {list(boolean(1), v), fault(api.Type)}})
		}
	}
}

// P10.1: JOIN tells the texts one behind the other; Long, at once, if they are too long.
func TestJoin(t *testing.T) {
	hold(t, "JOIN", []example{
		{nil, words("")}, {list(void), words("")}, {list(words("")), words("")}, {list(words("a")), words("a")}, {integers(-1), words("-1")}, {list(boolean(1)), words("TRUE")}, {list(boolean(0)), words("FALSE")}, {integers(bottom), words("-9223372036854775808")},
		{list(words("a"), words("b"), words("c")), words("abc")}, {list(words("b"), words("a")), words("ba")}, {list(words("a"), integer(-1), void, boolean(1)), words("a-1TRUE")}, {list(words(""), words("a"), words("")), words("a")}, {list(words("\xc3"), words("\xa9")), words("\u00e9")}, {list(words("\x00"), words("\x00")), words("\x00\x00")}, {list(words(" "), words("x")), words(" x")}, {integers(0, 0, 7), words("007")}, {list(words("1"), words("2")), words("12")},
		{list(words(fullText)), words(fullText)}, {list(words(fullText[:199]), words("x")), words(fullText[:199] + "x")}, {list(words("x"), words(fullText[:199])), words("x" + fullText[:199])}, {list(words(fullText), words("")), words(fullText)}, {list(words(fullText[:100]), words(fullText[:100])), words(fullText)}, {list(words(fullText[:199]), integer(7)), words(fullText[:199] + "7")}, {list(words(fullText[:196]), boolean(1)), words(fullText[:196] + "TRUE")}, {list(words(fullText[:195]), boolean(0)), words(fullText[:195] + "FALSE")},
		{slices.Repeat(list(words("m")), 200), words(fullText)}, {slices.Repeat(list(words("\u00e9")), 100), words(strings.Repeat("\u00e9", 100))},
	})
	fails(t, "JOIN", []example{
		{list(words(fullText), words("x")), fault(api.Long)}, {list(words("x"), words(fullText)), fault(api.Long)}, {list(words(fullText[:150]), words(fullText[:51])), fault(api.Long)}, {list(words(fullText), words(fullText)), fault(api.Long)}, {list(words(fullText), integer(0)), fault(api.Long)}, {list(words(fullText[:197]), boolean(1)), fault(api.Long)}, {list(words(fullText[:196]), boolean(0)), fault(api.Long)},
		{slices.Repeat(list(words("m")), 201), fault(api.Long)}, {slices.Repeat(list(words("\u00e9")), 101), fault(api.Long)},
	})
	for _, v := range crooked() {
		fails(t, "JOIN", []example{{list(v), fault(api.Type)}, {list(words("a"), v), fault(api.Type)}, {list(words(fullText), v), fault(api.Type)}})
	}
	for _, v := range faults() {
		fails(t, "JOIN", []example{{list(v), v}, {list(words("a"), v), v}, {list(words(fullText), v), v}})
	}
}

// P10.1: COUNT tells how many are Int by Kind alone, COUNTA how many there are; neither minds faults.
func TestCountAndCounta(t *testing.T) {
	for _, x := range []struct {
		l          []api.Value
		ints, some int64
	}{
		{nil, 0, 0}, {list(void), 0, 0}, {voids(), 0, 0}, {integers(0), 1, 1}, {integers(5, -5, 5), 3, 3}, {list(words("2")), 0, 1}, {list(words("")), 0, 1}, {list(boolean(1)), 0, 1}, {list(boolean(0), boolean(1)), 0, 2},
		{list(integer(1), words("2"), boolean(1), void, integer(0), fault(api.Div)), 2, 5}, {list(fault(api.Div), integer(1)), 1, 2}, {faults(), 0, 8}, {others(), 0, int64(len(others()))}, {numbers(), 16, int64(len(numbers()))}, {integers(top, 1, top, bottom, bottom), 5, 5}, {list(words(fullText), words(fullText)), 0, 2},
		{crooked(), 2, int64(len(crooked()))}, {list(api.Value{Kind: api.Int, N: 1, S: "x"}), 1, 1}, {list(words(overText), fault(0)), 0, 2}, {list(api.Value{Kind: 1<<32 + 2}, api.Value{Kind: -2}, api.Value{Kind: 258}), 0, 3}, {list(api.Value{Kind: 1 << 32}, api.Value{Kind: 256}), 0, 2},
		{slices.Repeat(list(integer(1), void, fault(1)), 1000), 1000, 2000},
	} {
		hold(t, "COUNT", []example{{x.l, integer(x.ints)}})
		hold(t, "COUNTA", []example{{x.l, integer(x.some)}})
	}
}

// P10.1: what is no function's name is none, whatever the values.
func TestOtherNames(t *testing.T) {
	l := []string{"", " ", "sum", "Sum", "sUM", "SUM(", "=SUM", "COUNTAS", "COUNTIF", "COUNTB", "IF", "NOT", "MID", "IFERR", "CHOOSE", "MATCH", "AVERAGE", "MEAN", "XOR", "CONCAT", "SU", "M", "S\u016aM", "\u017fUM", strings.Repeat("SUM", 1<<20), "SUM\n", "#SUM", "A1", "+", "&"}
	for _, name := range names {
		l = append(l, strings.ToLower(name), name[:1]+strings.ToLower(name[1:]), strings.ToLower(name[:1])+name[1:], " "+name, name+" ", name+"\x00", "\x00"+name, name+"S", name[1:], name+name, name+"1")
		if name != "COUNTA" {
			l = append(l, name[:len(name)-1])
		}
	}
	for _, name := range l {
		for _, values := range [][]api.Value{nil, {}, {void}, {integer(1)}, {integer(1), integer(2)}, {words("x")}, {boolean(1)}, {fault(api.Div)}, {fault(0)}, {words(overText)}} {
			if got, ok := Of(name, values); got != void || ok {
				t.Errorf("%.40q of %s: %s %v", name, brief(values), brief(got), ok)
			}
		}
	}
}

// expected is what Of must answer of a name that it has: each beginning of l, from the shortest on, is made anew by great numbers.
func expected(name string, l []api.Value) api.Value {
	l = slices.DeleteFunc(slices.Clone(l), func(v api.Value) bool { return v.Kind == api.Empty })
	switch name {
	case "COUNT":
		return integer(int64(len(slices.DeleteFunc(l, func(v api.Value) bool { return v.Kind != api.Int }))))
	case "COUNTA":
		return integer(int64(len(l)))
	}
	if len(l) == 0 {
		return map[string]api.Value{"SUM": integer(0), "PRODUCT": integer(1), "MIN": fault(api.None), "MAX": fault(api.None), "AVG": fault(api.Div), "AND": boolean(1), "OR": boolean(0), "JOIN": words("")}[name]
	}
	var so api.Value
	for n := range l {
		if so = made(name, l[:n+1]); so.Kind == api.Fault {
			return so
		}
	}
	return so
}

// made is what one or more values, none of which is Empty, come to, if all but the last one come to no fault.
func made(name string, l []api.Value) api.Value {
	last := l[len(l)-1]
	switch name {
	case "AND", "OR":
		if _, bad := value.Flag(last); bad != void {
			return bad
		}
		return truths(l, name == "AND")
	case "JOIN":
		if _, bad := value.Str(last); bad != void {
			return bad
		}
		s := ""
		for _, v := range l {
			s += value.Show(v)
		}
		if len(s) > 200 {
			return fault(api.Long)
		}
		return words(s)
	}
	if _, bad := value.Num(last); bad != void {
		return bad
	}
	return great(name, l)
}

// truths tells by counting whether all, or one, of l are true.
func truths(l []api.Value, all bool) api.Value {
	n := 0
	for _, v := range l {
		if so, _ := value.Flag(v); so {
			n++
		}
	}
	if all && n == len(l) || !all && n > 0 {
		return boolean(1)
	}
	return boolean(0)
}

// great tells what numbers come to, by numbers of any size.
func great(name string, l []api.Value) api.Value {
	sum, product := new(big.Int), big.NewInt(1)
	var sorted []int64
	for _, v := range l {
		n, _ := value.Num(v)
		sum.Add(sum, big.NewInt(n))
		product.Mul(product, big.NewInt(n))
		sorted = append(sorted, n)
	}
	slices.Sort(sorted)
	switch name {
	case "MIN":
		return integer(sorted[0])
	case "MAX":
		return integer(sorted[len(sorted)-1])
	case "PRODUCT":
		sum = product
	}
	if !sum.IsInt64() {
		return fault(api.Over)
	}
	if name == "AVG" {
		sum.Quo(sum, big.NewInt(int64(len(l))))
	}
	return integer(sum.Int64())
}

// P10.1: all lists of up to two values of all sorts, and of three of some.
func TestAllShortLists(t *testing.T) {
	l := all()
	some := []api.Value{void, {N: 5, S: "x"}, integer(0), integer(1), integer(-3), integer(1 << 62), integer(top), integer(bottom), boolean(0), boolean(1), words("2"), words("TRUE"), words("x"), words(fullText[:100]), fault(api.Div), fault(api.None), fault(9), {Kind: api.Int, S: "a"}}
	for _, name := range names {
		is(t, name, nil, expected(name, nil))
		is(t, name, []api.Value{}, expected(name, nil))
		for _, a := range l {
			is(t, name, list(a), expected(name, list(a)))
			for _, b := range l {
				is(t, name, list(a, b), expected(name, list(a, b)))
			}
		}
		for _, a := range some {
			for _, b := range some {
				for _, c := range some {
					is(t, name, list(a, b, c), expected(name, list(a, b, c)))
				}
			}
		}
	}
}

// P10.1: longer lists, most of them without a fault.
func TestLongerLists(t *testing.T) {
	r := rand.New(rand.NewSource(10))
	pools := [][]api.Value{numbers(), all(), slices.Concat(voids(), integers(0, 1, -1, 2, -3, 7, 100), list(words("-2"), boolean(1))), append(integers(1<<60, -1<<60, 1<<61, -1<<61), void), list(boolean(0), boolean(1), words("TRUE"), words("FALSE"), integer(2), void), list(words("a"), words("bc"), integer(7), boolean(1), void), list(words(fullText[:60]), words("x"), void)}
	for range 20000 {
		pool := pools[r.Intn(len(pools))]
		l := make([]api.Value, r.Intn(14))
		for i := range l {
			l[i] = pool[r.Intn(len(pool))]
		}
		for _, name := range names {
			is(t, name, l, expected(name, l))
		}
	}
}

// P10.1: a list of a million, with what decides at its ends.
func TestMillion(t *testing.T) {
	const n = 1_000_000
	ones := slices.Repeat(list(integer(1)), n)
	for name, want := range map[string]api.Value{"SUM": integer(n), "PRODUCT": integer(1), "MIN": integer(1), "MAX": integer(1), "AVG": integer(1), "AND": boolean(1), "OR": boolean(1), "JOIN": fault(api.Long), "COUNT": integer(n), "COUNTA": integer(n)} {
		is(t, name, ones, want)
	}
	ones[n-1] = integer(0)
	for name, want := range map[string]api.Value{"SUM": integer(n - 1), "PRODUCT": integer(0), "MIN": integer(0), "MAX": integer(1), "AVG": integer(0), "AND": boolean(0), "OR": boolean(1), "COUNT": integer(n), "COUNTA": integer(n)} {
		is(t, name, ones, want)
	}
	if got := Match(integer(0), ones); got != integer(n) {
		t.Error(got)
	}
	empties := slices.Repeat(list(api.Value{N: 1, S: "1"}), n)
	for _, name := range names {
		is(t, name, empties, expected(name, nil))
	}
	if got := Match(empties[0], empties); got != fault(api.None) {
		t.Error(got)
	}
}

// P10.3: values whose Kind is Empty change nothing, wherever they stand, however many.
func TestEmptyChangesNothing(t *testing.T) {
	r := rand.New(rand.NewSource(3))
	pool, empties := slices.Concat(numbers(), others(), faults(), crooked()), voids()
	for range 5000 {
		l := make([]api.Value, r.Intn(5))
		for i := range l {
			l[i] = pool[r.Intn(len(pool))]
		}
		mixed := slices.Clone(l)
		for range r.Intn(6) {
			mixed = slices.Insert(mixed, r.Intn(len(mixed)+1), empties[r.Intn(len(empties))])
		}
		for _, name := range names {
			want, _ := Of(name, l)
			is(t, name, mixed, want)
		}
	}
}

// place holds Match's answer against the one that must be.
func place(t *testing.T, v api.Value, l []api.Value, want api.Value) {
	t.Helper()
	if got := Match(v, l); got != want {
		t.Errorf("Match of %s in %s: %s, not %s", brief(v), brief(l), brief(got), brief(want))
	}
}

// P10.2: the place of the first one that is the same, Empty ones counted with the others.
func TestMatch(t *testing.T) {
	l := []api.Value{void, integer(1), words("1"), boolean(1), fault(api.Div), integer(1), integer(0), boolean(0), words(""), words("a"), words("TRUE"), {Kind: api.Int, N: 1, S: "a"}, {Kind: api.Text, N: 1, S: "a"}, {Kind: 5}, {Kind: 5, N: 1}, {N: 7}, integer(7), words("A"), integer(top), integer(bottom), words(overText), words(fullText), integer(-1)}
	for i, v := range l {
		want := integer(int64(i) + 1)
		switch i {
		case 0, 15: // Empty by Kind: never found
			want = fault(api.None)
		case 4:
			want = v
		case 5: // it is there ahead of that
			want = integer(2)
		}
		v.S = strings.Clone(v.S)
		place(t, v, l, want)
	}
	for _, v := range []api.Value{integer(2), integer(-7), integer(1 << 32), integer(1<<32 + 1), integer(top - 1), words("0"), words("b"), words("a "), words("\x00"), words("FALSE"), words("a\x00"), words(fullText[:199]), words(overText + "m"), boolean(2), boolean(-1), {Kind: 5, N: 2}, {Kind: 5, S: "a"}, {Kind: 6}, {Kind: -1}, {Kind: 1 << 32}, {Kind: 1<<32 + 2, N: 1}, {Kind: 258, N: 1}, {Kind: api.Int, N: 1, S: "b"}, {Kind: api.Text, N: 2, S: "a"}, {Kind: api.Bool, N: 1, S: "a"}} {
		place(t, v, l, fault(api.None))
	}
	for _, v := range all() {
		want := fault(api.None)
		if v.Kind == api.Fault {
			want = v
		}
		place(t, v, nil, want)
		place(t, v, []api.Value{}, want)
		place(t, v, voids(), want)
	}
}

// P10.2: at the first place, the last one, more than once, between values of all sorts that are not the same.
func TestMatchAtAnyPlace(t *testing.T) {
	l := all()
	for i, v := range l {
		rest := slices.DeleteFunc(slices.Clone(l), func(other api.Value) bool { return other == v })
		if len(rest) != len(l)-1 {
			t.Fatalf("%d: %s is there more than once", i, brief(v))
		}
		ahead, once, twice := append(list(v), rest...), append(slices.Clone(rest), v), slices.Insert(slices.Insert(slices.Clone(rest), 20, v), 30, v)
		wants := integers(1, int64(len(l)), 21)
		if v.Kind == api.Empty {
			wants = list(fault(api.None), fault(api.None), fault(api.None))
		} else if v.Kind == api.Fault {
			wants = list(v, v, v)
		}
		place(t, v, ahead, wants[0])
		place(t, v, once, wants[1])
		place(t, v, twice, wants[2])
		if v.Kind != api.Fault {
			place(t, v, rest, fault(api.None))
		}
	}
}

// P10.2: values that differ in one field alone are not the same.
func TestMatchOfNearValues(t *testing.T) {
	near := []api.Value{{Kind: 2, N: 1, S: "a"}, {Kind: 1, N: 1, S: "a"}, {Kind: 2, N: 2, S: "a"}, {Kind: 2, N: 1, S: "b"}, {Kind: 2, N: 1}, {Kind: 2, S: "a"}, {Kind: 3, N: 1, S: "a"}, {Kind: 2, N: 1, S: "a\x00"}, {Kind: 2, N: 1<<32 + 1, S: "a"}, {Kind: 1<<32 + 2, N: 1, S: "a"}}
	for i, v := range near {
		for k, other := range near {
			want := fault(api.None)
			if i == k {
				want = integer(1)
			}
			place(t, v, list(other), want)
			if i != k {
				place(t, v, list(other, v, other), integer(2))
			}
		}
	}
}

// P10.2: a fault by Kind alone is told as it is, whatever the list.
func TestMatchOfFaults(t *testing.T) {
	for _, v := range append(faults(), fault(0), fault(9), fault(-1), fault(top), api.Value{Kind: api.Fault, S: "x"}, api.Value{Kind: api.Fault, N: 3, S: overText}) {
		for _, l := range [][]api.Value{nil, {}, {void}, {v}, {integer(1), v}, {v, v}, all()} {
			place(t, v, l, v)
		}
	}
}

// Rule 2: what is handed in stays as it is, its spare room too, and texts that are told are new memory.
func TestMemory(t *testing.T) {
	room := append(all(), integer(1), integer(2), integer(3))
	for _, n := range []int{0, 1, 5, 20, len(room) - 3} {
		before := slices.Clone(room)
		for _, name := range append(names, "IF", "") {
			Of(name, room[:n])
		}
		for _, v := range before {
			Match(v, room[:n])
		}
		if !slices.Equal(room, before) {
			t.Fatalf("the first %d of a list have been changed, or what is behind them", n)
		}
	}
	for _, s := range []string{"a", "abc", fullText} {
		v := words(strings.Clone(s))
		crookedFault := api.Value{Kind: api.Fault, N: 1, S: v.S}
		for name, call := range map[string]func() api.Value{
			"JOIN":             func() api.Value { so, _ := Of("JOIN", list(v)); return so },
			"JOIN with others": func() api.Value { so, _ := Of("JOIN", list(void, words(""), v, words(""))); return so },
			"Match":            func() api.Value { return Match(crookedFault, list(crookedFault)) },
		} {
			one, other := call().S, call().S
			if one != s || other != s {
				t.Errorf("%s: %q, %q", name, one, other)
			}
			if a, b, c := unsafe.StringData(one), unsafe.StringData(other), unsafe.StringData(v.S); a == b || a == c || b == c {
				t.Errorf("%s of %q shares its text", name, s)
			}
		}
	}
}

// Rule 4: what is answered hangs on the arguments alone.
func TestAskedAgain(t *testing.T) {
	l := slices.Concat(numbers()[:6], list(void, boolean(1), words("2")))
	for _, name := range names {
		first, _ := Of(name, l)
		for _, other := range names {
			Of(other, list(fault(api.Div)))
			Of(other, integers(top, top))
		}
		is(t, name, l, first)
	}
}
