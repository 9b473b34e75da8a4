package eval

import (
	"fmt"
	"math"
	"slices"
	"strings"
	"testing"
	"unsafe"

	"pannier/addr"
	"pannier/api"
	"pannier/tree"
)

// top and bottom are the ends of the numbers.
const top, bottom = math.MaxInt64, math.MinInt64

// void is the good Empty.
var void = api.Value{}

// fullText and overText are as long as a Text may be, and one byte longer.
var fullText, overText = strings.Repeat("m", 200), strings.Repeat("m", 201)

func integer(n int64) api.Value { return api.Value{Kind: api.Int, N: n} }

func boolean(n int64) api.Value { return api.Value{Kind: api.Bool, N: n} }

func words(s string) api.Value { return api.Value{Kind: api.Text, S: s} }

func fault(code int64) api.Value { return api.Value{Kind: api.Fault, N: code} }

// cell is the cell of that name.
func cell(name string) api.Addr {
	a, ok := addr.Parse(name)
	if !ok {
		panic(name)
	}
	return a
}

// laid are entries of those cells, in the order in which cells go.
func laid(values map[string]api.Value) (l []api.Entry) {
	for name, v := range values {
		l = append(l, api.Entry{A: cell(name), V: v})
	}
	slices.SortFunc(l, func(a, b api.Entry) int { return (a.A.Row-b.A.Row)*100 + a.A.Col - b.A.Col })
	return l
}

// sheet is what the examples are reckoned with. Rows 1 to 3 hold values of all kinds, those of column K and row 9 the faults by their codes; Z1 to Z9 hold nothing.
func sheet() []api.Entry {
	return laid(map[string]api.Value{
		"A1": integer(5), "B1": words("ab"), "C1": boolean(1), "D1": words("12"), "E1": words(""), "F1": boolean(0), "G1": integer(top), "H1": integer(bottom), "I1": words(fullText), "J1": words(fullText[:199]),
		"A2": integer(0), "B2": integer(-7), "C2": words("x"), "D2": words("TRUE"), "E2": words("FALSE"), "F2": words("-3"), "G2": integer(top - 1), "H2": integer(bottom + 1), "I2": words(fullText[:100]), "J2": words("true"),
		"B3": integer(7), "D3": integer(2), "E3": words("ab"),
		"K1": fault(1), "K2": fault(2), "K3": fault(3), "K4": fault(4), "K5": fault(5), "K6": fault(6), "K7": fault(7), "K8": fault(8),
		"L5": integer(1), "M5": integer(2), "L6": integer(3), "M6": fault(1), "L7": words("y"),
		"AX1": integer(50), "A1000": integer(1000), "AX1000": integer(50000),
	})
}

// told is v as the examples have it.
func told(v api.Value) string {
	switch v.Kind {
	case api.Empty:
		return "empty"
	case api.Text:
		return fmt.Sprintf("%q", v.S)
	case api.Int:
		return fmt.Sprint(v.N)
	case api.Bool:
		return []string{"FALSE", "TRUE"}[v.N]
	}
	return []string{"#0", "#DIV", "#OVER", "#TYPE", "#REF", "#ARG", "#LOOP", "#LONG", "#NONE"}[v.N]
}

// parsed is the tree of that formula.
func parsed(t *testing.T, s string) api.Node {
	t.Helper()
	n, at, err := tree.Parse(s)
	if err != api.OK {
		t.Fatalf("%q: %d %v", s, at, err)
	}
	return n
}

// comes holds what a formula comes to by that sheet.
func comes(t *testing.T, l []api.Entry, s, want string) {
	t.Helper()
	if got := Of(parsed(t, s), l); told(got) != want {
		t.Errorf("%s: %.120s, not %.120s", s, told(got), want)
	}
}

// all holds formulas, each with what it comes to.
func all(t *testing.T, l []api.Entry, wants map[string]string) {
	t.Helper()
	for s, want := range wants {
		comes(t, l, s, want)
	}
}

// P11.2: constants, cells with and without an entry, ranges.
func TestLeaves(t *testing.T) {
	all(t, sheet(), map[string]string{
		"0": "0", "7": "7", "9223372036854775807": "9223372036854775807", `"a"`: `"a"`, `""`: `""`, `"TRUE"`: `"TRUE"`, `"12"`: `"12"`, "TRUE": "TRUE", "FALSE": "FALSE", "(((3)))": "3",
		"A1": "5", "B1": `"ab"`, "C1": "TRUE", "F1": "FALSE", "E1": `""`, "A2": "0", "H1": "-9223372036854775808", "I1": `"` + fullText + `"`,
		"K1": "#DIV", "K2": "#OVER", "K3": "#TYPE", "K4": "#REF", "K5": "#ARG", "K6": "#LOOP", "K7": "#LONG", "K8": "#NONE",
		"AX1": "50", "A1000": "1000", "AX1000": "50000", "AW1000": "0", "AX999": "0", "A3": "0", "C3": "0", "B1000": "0", "AX2": "0",
		"A1:A1": "#REF", "A1:B2": "#REF", "Z1:Z9": "#REF", "A1:AX1000": "#REF", "K1:K1": "#REF",
	})
	for _, s := range []string{"A1", "AX1000", "Z9", "A1+0", "SUM(A1:AX1000)", "COUNTA(A1:AX1000)", "-A1", "ROWS(A1)-1"} {
		comes(t, nil, s, "0")
		comes(t, []api.Entry{}, s, "0")
	}
	all(t, nil, map[string]string{"1+1": "2", "MIN(A1:B2)": "#NONE", "AVG(A1)": "#DIV", "AND(A1:B2)": "TRUE", "PRODUCT(A1:AX1000)": "1", "JOIN(A1:B2)": `""`, "A1&B1": `""`, "A1=B1": "TRUE", "MATCH(0,A1:B2)": "#NONE", "INDEX(A1:B2,2,2)": "0"})
}

// P11.2: a tree whose value is Empty is the Int 0, but Empty within.
func TestEmptyIsNothing(t *testing.T) {
	all(t, sheet(), map[string]string{
		"Z9": "0", "(Z9)": "0", "IF(TRUE,Z9,1)": "0", "IF(FALSE,1,Z9)": "0", "IFERR(Z9,1)": "0", "IFERR(K1,Z9)": "0", "CHOOSE(1,Z9)": "0", "CHOOSE(2,1,Z9)": "0", "INDEX(Y1:Z9,2,2)": "0", "INDEX(Z9,1,1)": "0", "IF(TRUE,IFERR(Z9,1),2)": "0",
		"ISEMPTY(Z9)": "TRUE", "ISEMPTY(IF(TRUE,Z9,1))": "TRUE", "ISEMPTY(IFERR(Z9,1))": "TRUE", "ISEMPTY(CHOOSE(2,1,Z9))": "TRUE", "ISEMPTY(INDEX(A1:C3,3,1))": "TRUE", "ISEMPTY(INDEX(A1:C3,3,2))": "FALSE", "ISINT(Z9)": "FALSE", "ISINT(IF(TRUE,Z9,1))": "FALSE", "ISEMPTY(-Z9)": "FALSE", "ISEMPTY(Z9+Z9)": "FALSE", "ISEMPTY(Z9&Z9)": "FALSE", "ISEMPTY(SUM(Z9))": "FALSE", "ISEMPTY(E1)": "FALSE", "ISEMPTY(A2)": "FALSE",
		"COUNTA(Z9)": "0", "COUNTA(IF(TRUE,Z9,1))": "0", "COUNTA(-Z9)": "1", "Z9=IF(TRUE,Z8,1)": "TRUE", "Z9=0": "FALSE", "Z9=\"\"": "FALSE", "MATCH(IF(TRUE,Z9,1),A1:C3)": "#NONE", "IF(TRUE,Z9,1)&\"x\"": `"x"`, "LEN(IFERR(Z9,1))": "0",
	})
}

// P11.2: Neg is 0 less a number.
func TestNeg(t *testing.T) {
	all(t, sheet(), map[string]string{
		"-1": "-1", "-0": "0", "--5": "5", "---5": "-5", "-A1": "-5", "-B2": "7", "-Z9": "0", "-C1": "-1", "-F1": "0", "-D1": "-12", "-F2": "3", `-"-9223372036854775807"`: "9223372036854775807",
		"-G1": "-9223372036854775807", "-H2": "9223372036854775807", "-H1": "#OVER", `-"-9223372036854775808"`: "#OVER", "--H1": "#OVER",
		"-B1": "#TYPE", "-E1": "#TYPE", "-D2": "#TYPE", `-"1.5"`: "#TYPE", "-K1": "#DIV", "-K6": "#LOOP", "-(A1:B2)": "#REF", "-A1:A1": "#REF", "-NOPE(1)": "#NONE", "-2^2": "4", "2^-1": "#ARG",
	})
}

// P11.2: sums, differences and products, to the ends of the numbers and beyond.
func TestSums(t *testing.T) {
	all(t, sheet(), map[string]string{
		"1+2": "3", "A1+B2": "-2", "A1+Z9": "5", "Z9+Z8": "0", "A1+D1": "17", "D1+D1": "24", "C1+C1": "2", "F2+F1": "-3", "1+2+3": "6", `"1"+"2"`: "3",
		"G2+1": "9223372036854775807", "G1+0": "9223372036854775807", "H2+B2+7": "#OVER", "H2+7+B2": "-9223372036854775807", "H1+G1": "-1", "G1+1": "#OVER", "1+G1": "#OVER", "H1+B2": "#OVER", "G1+C1": "#OVER", "G1+1-1": "#OVER", "H1+H1": "#OVER", "G1+G1": "#OVER",
		"3-5": "-2", "5-3": "2", "A1-B2": "12", "Z9-A1": "-5", "A1-Z9": "5", "D1-F2": "15", "1-2-3": "-4", "C1-F1": "1",
		"H2-1": "-9223372036854775808", "H1-1": "#OVER", "0-H1": "#OVER", "0-H2": "9223372036854775807", "B2-G1": "#OVER", "-1-G1": "-9223372036854775808", "-2-G1": "#OVER", "G1-B2": "#OVER", "H1-H1": "0", "G1-G1": "0",
		"3*5": "15", "A1*B2": "-35", "A1*Z9": "0", "D1*F2": "-36", "C1*C1": "1", "2*3*4": "24", "B2*B2": "49",
		"G1*1": "9223372036854775807", "G1*-1": "-9223372036854775807", "H1*1": "-9223372036854775808", "H1*-1": "#OVER", "-1*H1": "#OVER", "G1*2": "#OVER", "H1*2": "#OVER", "4611686018427387904*-2": "-9223372036854775808", "4611686018427387904*2": "#OVER", "3037000500*3037000500": "#OVER", "3037000499*3037000499": "9223372030926249001", "H1*Z9": "0", "H1*H1": "#OVER",
		"1+2*3": "7", "(1+2)*3": "9", "2*3+1": "7", "10-2*3": "4",
	})
}

// P11.2: quotients and what they leave; by 0 the fault Div.
func TestQuotients(t *testing.T) {
	all(t, sheet(), map[string]string{
		"7/2": "3", "-7/2": "-3", "7/-2": "-3", "-7/-2": "3", "0/5": "0", "1/2": "0", "B3/D3": "3", "D1/A1": "2", "Z9/A1": "0", "C1/C1": "1", "100/5/2": "10", "H1/1": "-9223372036854775808", "G1/-1": "-9223372036854775807", "H1/H1": "1", "H1/2": "-4611686018427387904",
		"1/0": "#DIV", "0/0": "#DIV", "A1/Z9": "#DIV", "A1/A2": "#DIV", "A1/F1": "#DIV", `A1/"0"`: "#DIV", "H1/0": "#DIV", "H1/-1": "#OVER", "H2/-1": "9223372036854775807",
		"7%2": "1", "-7%2": "-1", "7%-2": "1", "-7%-2": "-1", "0%5": "0", "1%2": "1", "B3%D3": "1", "D1%A1": "2", "Z9%A1": "0", "6%3": "0", "100%7%2": "0", "H1%1": "0", "H1%10": "-8", "G1%10": "7",
		"1%0": "#DIV", "0%0": "#DIV", "A1%Z9": "#DIV", "A1%A2": "#DIV", "A1%F1": "#DIV", `A1%"0"`: "#DIV", "H1%0": "#DIV", "H1%-1": "#OVER", "H2%-1": "0",
	})
}

// P11.2: powers; the fault Args of a second number below 0.
func TestPowers(t *testing.T) {
	all(t, sheet(), map[string]string{
		"2^10": "1024", "2^0": "1", "0^0": "1", "0^5": "0", "1^9223372036854775807": "1", "0^9223372036854775807": "0", "(-1)^9223372036854775807": "-1", "A1^D3": "25", "B2^3": "-343", "D1^2": "144", "C1^5": "1", "Z9^Z9": "1", "A1^Z9": "1", "2^3^2": "512", "(2^3)^2": "64", "A1^C1": "5",
		"2^62": "4611686018427387904", "2^63": "#OVER", "(-2)^63": "-9223372036854775808", "(-2)^64": "#OVER", "3^39": "4052555153018976267", "3^40": "#OVER", "H1^1": "-9223372036854775808", "H1^2": "#OVER", "G1^2": "#OVER", "2^9223372036854775807": "#OVER",
		"2^-1": "#ARG", "0^-1": "#ARG", "1^-1": "#ARG", "(-1)^-1": "#ARG", "2^B2": "#ARG", "2^F2": "#ARG", "2^H1": "#ARG", "Z9^-1": "#ARG", "G1^-2": "#ARG",
	})
}

// P11.2: & joins texts; Long, if they are too long.
func TestJoinSign(t *testing.T) {
	all(t, sheet(), map[string]string{
		`"a"&"b"`: `"ab"`, `"b"&"a"`: `"ba"`, "A1&B1": `"5ab"`, "C1&F1": `"TRUEFALSE"`, "Z9&Z8": `""`, "Z9&A1": `"5"`, "A1&Z9": `"5"`, "H1&1": `"-92233720368547758081"`, "E1&E1": `""`, `1&2&3`: `"123"`, "1&2+3": "15", `"1"&"2"+3`: "15", "A1&B1&C1&Z9": `"5abTRUE"`, `"é"&"é"`: `"éé"`,
		`I1&""`: `"` + fullText + `"`, `""&I1`: `"` + fullText + `"`, "I1&Z9": `"` + fullText + `"`, "J1&5": `"` + fullText[:199] + `5"`, "5&J1": `"5` + fullText[:199] + `"`, "I2&I2": `"` + fullText + `"`,
		"I1&1": "#LONG", "1&I1": "#LONG", "J1&12": "#LONG", "J1&B1": "#LONG", "I1&I1": "#LONG", "I2&I2&E1": `"` + fullText + `"`, `I2&I2&"x"`: "#LONG", "J1&C1": "#LONG",
	})
}

// P11.2: what compares tells of each order, by the order of values of unlike Kinds too.
func TestComparisons(t *testing.T) {
	// Each goes ahead of the next one; those of one line are alike.
	order := [][]string{{"Z9", "Z8", "IF(TRUE,Z7,1)"}, {"H1"}, {"H2"}, {"B2", "-7"}, {"A2", "0"}, {"A1", "5", "2+3"}, {"G2"}, {"G1"}, {"E1", `""`}, {`"#DIV"`}, {`"-1"`}, {`"10"`}, {`"9"`}, {`"A"`}, {`"B"`}, {`"a"`}, {"B1", `"ab"`, "E3"}, {`"abc"`}, {`"b"`}, {`"é"`}, {"F1", "FALSE", "1=2"}, {"C1", "TRUE", "1=1"}}
	for i, line := range order {
		for k, others := range order {
			for _, a := range line {
				for _, b := range others {
					for sign, so := range map[string]bool{"=": i == k, "<>": i != k, "<": i < k, "<=": i <= k, ">": i > k, ">=": i >= k} {
						comes(t, sheet(), "("+a+")"+sign+"("+b+")", strings.ToUpper(fmt.Sprint(so)))
					}
				}
			}
		}
	}
	for _, sign := range []string{"=", "<>", "<", "<=", ">", ">="} {
		all(t, sheet(), map[string]string{"K1" + sign + "K1": "#DIV", "K8" + sign + "1": "#NONE", "Z9" + sign + "K3": "#TYPE", "K2" + sign + "K5": "#OVER", "A1:A1" + sign + "1": "#REF", `"x"` + sign + "A1:B2": "#REF", "A1:B2" + sign + "K1": "#REF", "K1" + sign + "A1:B2": "#DIV"})
	}
}

// many are the functions of many values.
var many = []string{"SUM", "PRODUCT", "MIN", "MAX", "AVG", "AND", "OR", "JOIN", "COUNT", "COUNTA"}

// P11.2: functions of many values take those of their Args one behind the other, of a Range those of its cells that have entries.
func TestMany(t *testing.T) {
	all(t, sheet(), map[string]string{
		"SUM(1)": "1", "SUM(1,2,3)": "6", "SUM(A1,B3)": "12", "SUM(Z9)": "0", "SUM(Z1:Z9)": "0", "SUM(A1:A3)": "5", "SUM(A1:A1)": "5", "SUM(A1:A3,B2:B3,1)": "6", "SUM(A1,A1:A1,B3:Z9)": "#TYPE", "SUM(A1,A1:A1,B3:D3)": "19", "SUM(A1:A3,A1:A3)": "10", "SUM(A1,Z9,2)": "7", `SUM("12",TRUE)`: "13", "SUM(D1,C1)": "13", "SUM(A1000:AX1000)": "51000", "SUM(AX1:AX1000)": "50050", "SUM(B4:AW999)": "#REF", "SUM(B5:J999)": "0", "SUM(A1:C1,B5:J999)": "#TYPE", "SUM(L5:M5,L6)": "6", "SUM(SUM(A1,A1),SUM(L5:M5))": "13", "SUM(IF(TRUE,A1,K1))": "5", "SUM(G1,1)": "#OVER", "SUM(G1:H1)": "-1", "SUM(B1)": "#TYPE", "SUM(1,1,1,1,1,1,1,1,1,1)": "10",
		"SUM(A1:C3)": "#TYPE", "SUM(A1:K1)": "#TYPE", "SUM(G1:K1)": "#TYPE", "SUM(K1:K8)": "#DIV", "SUM(K2:K8)": "#OVER", "SUM(1,K4,K2)": "#REF", "SUM(K4,B1)": "#REF", "SUM(B1,K4)": "#TYPE", "SUM(G1,1,K4)": "#OVER", "SUM(L5:M7)": "#DIV", "SUM(L5:L7)": "#TYPE", "SUM(L5,L6:M6,L7)": "#DIV", "SUM(IF(TRUE,A1:A3,1))": "#REF", "SUM(-A1:A3)": "#REF", "SUM(IFERR(A1:A3,9))": "9",
		"PRODUCT(2,3,7)": "42", "PRODUCT(A1:A1,B2:B3,Z9)": "-245", "PRODUCT(Z1:Z9)": "1", "PRODUCT(A1:A3)": "0", "PRODUCT(G1,2)": "#OVER", "PRODUCT(K1,2)": "#DIV",
		"MIN(3,1,2)": "1", "MAX(3,1,2)": "3", "MIN(A1:A3)": "0", "MAX(A1:A3)": "5", "MIN(B2:B3)": "-7", "MAX(G1:H1,1)": "9223372036854775807", "MIN(G1:H1)": "-9223372036854775808", "MIN(Z9)": "#NONE", "MAX(Z1:Z9,Z9)": "#NONE", "MIN(1,K3)": "#TYPE", "MAX(B1)": "#TYPE",
		"AVG(1,2)": "1", "AVG(A1,B3)": "6", "AVG(A1:A3)": "2", "AVG(A1:A3,Z9)": "2", "AVG(B2,B2,-1)": "-5", "AVG(Z1:Z9)": "#DIV", "AVG(A1,K8)": "#NONE", "AVG(G1,G1)": "#OVER",
		"AND(TRUE,1)": "TRUE", "AND(C1:C1,A1:A3)": "FALSE", "AND(Z1:Z9)": "TRUE", "AND(FALSE,K1)": "#DIV", "AND(D2)": "TRUE", "AND(C1,E2)": "FALSE", "AND(B1)": "#TYPE", "AND(FALSE,J2)": "#TYPE",
		"OR(FALSE,0)": "FALSE", "OR(C1:C1,A2)": "TRUE", "OR(Z1:Z9)": "FALSE", "OR(TRUE,K1)": "#DIV", "OR(E2,D2)": "TRUE", "OR(A1:A3)": "TRUE", "OR(B1)": "#TYPE", "OR(TRUE,D1)": "#TYPE",
		"JOIN(A1:C1)": `"5abTRUE"`, "JOIN(A1:C2)": `"5abTRUE0-7x"`, "JOIN(A1:B3,1)": `"5ab0-771"`, "JOIN(Z1:Z9,A1)": `"5"`, "JOIN(Z9)": `""`, "JOIN(B1,A1,B1)": `"ab5ab"`, "JOIN(I1,E1)": `"` + fullText + `"`, "JOIN(I1,1)": "#LONG", "JOIN(I2,I2)": `"` + fullText + `"`, "JOIN(A1,K2,K1)": "#OVER", "JOIN(L5:M6)": "#DIV", "JOIN(I1:J1,K1)": "#LONG",
		"COUNT(A1:C3)": "4", "COUNT(A1:A1,1,Z9)": "2", "COUNT(K1:K8)": "0", "COUNT(K1,2,1/0)": "1", "COUNT(Z1:Z9)": "0", "COUNT(A1:AX1000)": "15", "COUNT(B1,C1,D1)": "0", "COUNT(A1:A1,A1:A1)": "2",
		"COUNTA(A1:C3)": "7", "COUNTA(K1:K8)": "8", "COUNTA(1/0,Z9,B1)": "2", "COUNTA(Z1:Z9)": "0", "COUNTA(A1:AX1000)": "39", "COUNTA(NOPE(),IF(TRUE,A1:B2,1))": "2", "COUNTA(A1:C3,A1:C3)": "14",
	})
	if n := len(sheet()); n != 39 {
		t.Error(n)
	}
	for _, name := range many {
		for code := range int64(8) {
			if name == "COUNT" || name == "COUNTA" {
				continue
			}
			k := fmt.Sprintf("K%d", code+1)
			for _, s := range []string{"(%s)", "(Z9,%s)", "(TRUE,%s)", "(%s,K1)", "(%s,B1)", "(%s:%s)", "(Z1:Z9,%s:%s)", "(C1,%s,K2,K3)", "(C1:C1,%s)"} {
				comes(t, sheet(), name+strings.ReplaceAll(s, "%s", k), told(fault(code+1)))
			}
		}
	}
}

// P11.2: functions of one value.
func TestOfOne(t *testing.T) {
	all(t, sheet(), map[string]string{
		"NOT(TRUE)": "FALSE", "NOT(FALSE)": "TRUE", "NOT(C1)": "FALSE", "NOT(Z9)": "TRUE", "NOT(0)": "TRUE", "NOT(-3)": "FALSE", "NOT(D2)": "FALSE", "NOT(E2)": "TRUE", "NOT(J2)": "#TYPE", "NOT(E1)": "#TYPE", "NOT(D1)": "#TYPE", "NOT(NOT(A1))": "TRUE",
		"ABS(5)": "5", "ABS(-5)": "5", "ABS(0)": "0", "ABS(Z9)": "0", "ABS(F2)": "3", "ABS(C1)": "1", "ABS(G1)": "9223372036854775807", "ABS(H2)": "9223372036854775807", "ABS(H1)": "#OVER", "ABS(-G1)": "9223372036854775807", "ABS(B1)": "#TYPE", "ABS(E1)": "#TYPE",
		"SIGN(-9)": "-1", "SIGN(9)": "1", "SIGN(0)": "0", "SIGN(Z9)": "0", "SIGN(H1)": "-1", "SIGN(G1)": "1", "SIGN(F2)": "-1", "SIGN(C1)": "1", "SIGN(F1)": "0", "SIGN(D2)": "#TYPE",
		"LEN(B1)": "2", "LEN(E1)": "0", "LEN(Z9)": "0", "LEN(-12)": "3", "LEN(C1)": "4", "LEN(F1)": "5", "LEN(I1)": "200", "LEN(H1)": "20", `LEN("é")`: "2", "LEN(A1&B1)": "3",
		"UPPER(B1)": `"AB"`, "UPPER(C2&1)": `"X1"`, "UPPER(Z9)": `""`, "UPPER(F1)": `"FALSE"`, "UPPER(J2)": `"TRUE"`, "UPPER(-1)": `"-1"`, `UPPER("aZé")`: `"AZé"`, "UPPER(I1)": `"` + strings.ToUpper(fullText) + `"`,
		`LOWER("AbZ")`: `"abz"`, "LOWER(C1)": `"true"`, "LOWER(Z9)": `""`, "LOWER(A1)": `"5"`, "LOWER(D2)": `"true"`, `LOWER("É")`: `"É"`, "LOWER(UPPER(B1))": `"ab"`,
		`VALUE("-7")`: "-7", "VALUE(D1)": "12", "VALUE(A1)": "5", "VALUE(C1)": "1", "VALUE(Z9)": "0", "VALUE(B1)": "#TYPE", "VALUE(E1)": "#TYPE", `VALUE("01")`: "#TYPE", `VALUE("9223372036854775808")`: "#TYPE", `VALUE("-9223372036854775808")`: "-9223372036854775808", "ISINT(VALUE(D1))": "TRUE",
		"TEXT(12)": `"12"`, "TEXT(Z9)": `""`, "TEXT(C1)": `"TRUE"`, "TEXT(F1)": `"FALSE"`, "TEXT(B1)": `"ab"`, "TEXT(H1)": `"-9223372036854775808"`, "TEXT(I1)": `"` + fullText + `"`, "ISTEXT(TEXT(1))": "TRUE",
	})
	// A function that asks for a kind, and what has it.
	for name, such := range map[string]string{"ISERR": "K1 K2 K3 K4 K5 K6 K7 K8 1/0 A1:B2 A1:A1 NOPE(1) -B1 SUM(K1)", "ISEMPTY": "Z9 IF(TRUE,Z9,1) INDEX(Z1:Z9,1,1)", "ISINT": "A1 A2 5 -1 Z9+0 LEN(B1) H1", "ISTEXT": `B1 E1 D1 D2 "x" "" 1&2 I1 TEXT(1)`, "ISBOOL": "C1 F1 TRUE FALSE 1=1 NOT(1) ISERR(1)"} {
		for _, asks := range []string{"ISERR", "ISEMPTY", "ISINT", "ISTEXT", "ISBOOL"} {
			for _, s := range strings.Fields(such) {
				comes(t, sheet(), asks+"("+s+")", strings.ToUpper(fmt.Sprint(asks == name)))
			}
		}
	}
}

// P11.2: functions of some values, each asked as what it is wanted as.
func TestOfSome(t *testing.T) {
	all(t, sheet(), map[string]string{
		`LEFT("abc",2)`: `"ab"`, `LEFT("abc",0)`: `""`, `LEFT("abc",9)`: `"abc"`, "LEFT(B1,C1)": `"a"`, "LEFT(-12,2)": `"-1"`, "LEFT(F1,D3)": `"FA"`, "LEFT(Z9,1)": `""`, "LEFT(B1,Z9)": `""`, "LEFT(B1,-1)": "#ARG", "LEFT(B1,G1)": `"ab"`, "LEFT(B1,H1)": "#ARG", `LEFT("abc","2")`: `"ab"`, "LEFT(B1,B1)": "#TYPE",
		`RIGHT("abc",2)`: `"bc"`, `RIGHT("abc",0)`: `""`, `RIGHT("abc",9)`: `"abc"`, "RIGHT(B1,C1)": `"b"`, "RIGHT(-12,2)": `"12"`, "RIGHT(Z9,1)": `""`, "RIGHT(B1,-1)": "#ARG", "RIGHT(B1,H1)": "#ARG", "RIGHT(B1,G1)": `"ab"`, "RIGHT(B1,E1)": "#TYPE",
		"REPT(B1,2)": `"abab"`, "REPT(B1,0)": `""`, "REPT(B1,1)": `"ab"`, "REPT(B1,-1)": "#ARG", "REPT(B1,100)": `"` + strings.Repeat("ab", 100) + `"`, "REPT(B1,101)": "#LONG", `REPT("x",200)`: `"` + strings.Repeat("x", 200) + `"`, `REPT("x",201)`: "#LONG", "REPT(E1,G1)": `""`, "REPT(Z9,G1)": `""`, "REPT(1,3)": `"111"`, "REPT(B1,G1)": "#LONG", "REPT(C1,D3)": `"TRUETRUE"`, "REPT(B1,C2)": "#TYPE",
		`EXACT(5,"5")`: "TRUE", `EXACT("a","A")`: "FALSE", "EXACT(Z9,E1)": "TRUE", "EXACT(C1,D2)": "TRUE", "EXACT(C1,J2)": "FALSE", "EXACT(B1,E3)": "TRUE", "EXACT(A1,B3)": "FALSE", "EXACT(Z9,0)": "FALSE", `EXACT(D1,12)`: "TRUE", `EXACT("#DIV","#DIV")`: "TRUE",
		"GCD(12,18)": "6", "GCD(-12,18)": "6", "GCD(0,0)": "0", "GCD(Z9,A1)": "5", "GCD(D1,F2)": "3", "GCD(C1,A1)": "1", "GCD(H1,0)": "#OVER", "GCD(0,H1)": "#OVER", "GCD(H1,H1)": "#OVER", "GCD(H1,2)": "2", "GCD(H1,G1)": "1", "GCD(B1,1)": "#TYPE", "GCD(1,B1)": "#TYPE",
		`MID("abcde",2,3)`: `"bcd"`, `MID("abcde",1,5)`: `"abcde"`, `MID("abcde",5,9)`: `"e"`, `MID("abcde",6,1)`: `""`, `MID("abcde",2,0)`: `""`, "MID(-123,2,2)": `"12"`, "MID(F1,D3,C1)": `"A"`, "MID(Z9,1,1)": `""`, "MID(B1,0,1)": "#ARG", "MID(B1,1,-1)": "#ARG", "MID(B1,G1,G1)": `""`, "MID(B1,2,G1)": `"b"`, "MID(B1,C2,-1)": "#TYPE", "MID(B1,-1,C2)": "#TYPE",
		`FIND("b","abcb")`: "2", `FIND("b","abcb",2)`: "2", `FIND("b","abcb",3)`: "4", `FIND("b","abcb",5)`: "#NONE", `FIND("b","abcb",1)`: "2", `FIND("b","abcb",0)`: "#ARG", `FIND("b","abcb",-1)`: "#ARG", `FIND("a","abcb")`: "1", `FIND("","abcb")`: "1", `FIND("","abcb",5)`: "5", `FIND("","abcb",6)`: "#NONE", "FIND(Z9,B1)": "1", `FIND("B",B1)`: "#NONE", "FIND(2,123)": "2", `FIND("U",C1)`: "3", `FIND("b","abcb",TRUE)`: "2", `FIND("b","abcb",Z9)`: "#ARG", `FIND("b","abcb","3")`: "4", `FIND("b","abcb",E1)`: "#TYPE", `FIND("x","")`: "#NONE", `FIND("b","abcb",G1)`: "#NONE", `FIND("#","#DIV")`: "1",
	})
}

// P11.2: what is not asked may be a fault, or ask for anything.
func TestChoices(t *testing.T) {
	all(t, sheet(), map[string]string{
		"IF(TRUE,1,2)": "1", "IF(FALSE,1,2)": "2", "IF(TRUE,1,1/0)": "1", "IF(FALSE,1/0,2)": "2", "IF(Z9,K1,2)": "2", "IF(A1,B1,K1)": `"ab"`, "IF(A2,K1,B1)": `"ab"`, "IF(-1,1,2)": "1", "IF(D2,1,2)": "1", "IF(E2,1,2)": "2", "IF(1<2,C1,K1)": "TRUE",
		"IF(TRUE,K1,2)": "#DIV", "IF(FALSE,1,K2)": "#OVER", "IF(K3,K1,K2)": "#TYPE", "IF(K6,1,2)": "#LOOP", "IF(B1,1,2)": "#TYPE", "IF(J2,K1,K2)": "#TYPE", "IF(D1,1,2)": "#TYPE", "IF(E1,1,2)": "#TYPE", "IF(A1:A1,1,2)": "#REF", "IF(TRUE,A1:B2,1)": "#REF", "IF(FALSE,A1:B2,1)": "1", "IF(TRUE,1,NOPE())": "1", "IF(TRUE,NOPE(),1)": "#NONE", "IF(TRUE,1,SUM())": "1", "IF(FALSE,IF(1,2),3)": "3", "IF(FALSE,IF(1,2),IF(1,2))": "#ARG", "IF(IF(TRUE,FALSE,K1),K2,IF(Z9,K3,7))": "7",
		"IFERR(1,2)": "1", "IFERR(1/0,5)": "5", "IFERR(7,1/0)": "7", "IFERR(K1,K2)": "#OVER", "IFERR(A1:B2,6)": "6", "IFERR(6,A1:B2)": "6", "IFERR(K1,A1:B2)": "#REF", "IFERR(NOPE(),B1)": `"ab"`, "IFERR(SUM(),B1)": `"ab"`, "IFERR(FALSE,1)": "FALSE", "IFERR(E1,1)": `""`, "IFERR(IFERR(K1,K2),3)": "3", "IFERR(B1+1,C1)": "TRUE", "IFERR(IF(B1,1,2),3)": "3",
		"CHOOSE(1,7)": "7", "CHOOSE(1,7,8)": "7", "CHOOSE(2,1/0,8,9)": "8", "CHOOSE(1,8,1/0)": "8", "CHOOSE(2,7,K4)": "#REF", "CHOOSE(TRUE,B1,K1)": `"ab"`, `CHOOSE("2",K1,B1)`: `"ab"`, "CHOOSE(9,1,2,3,4,5,6,7,8,9)": "9", "CHOOSE(8,1,2,3,4,5,6,7,8,9)": "8", "CHOOSE(D3,NOPE(),A1)": "5", "CHOOSE(1,CHOOSE(2,K1,C1),K1)": "TRUE",
		"CHOOSE(0,1)": "#ARG", "CHOOSE(Z9,1,2)": "#ARG", "CHOOSE(-1,1,2)": "#ARG", "CHOOSE(2,1)": "#ARG", "CHOOSE(3,1,2)": "#ARG", "CHOOSE(10,1,2,3,4,5,6,7,8,9)": "#ARG", "CHOOSE(G1,1)": "#ARG", "CHOOSE(H1,1)": "#ARG", "CHOOSE(4294967297,7)": "#ARG", "CHOOSE(B1,1)": "#TYPE", "CHOOSE(K6,K1)": "#LOOP", "CHOOSE(A1:A1,1)": "#REF", "CHOOSE(1,A1:B2)": "#REF", "CHOOSE(0,K1)": "#ARG", "CHOOSE(3,K1,K2)": "#ARG",
	})
}

// P11.2: functions of stretches of cells.
func TestAreas(t *testing.T) {
	all(t, sheet(), map[string]string{
		"ROWS(A1:C9)": "9", "COLS(A1:C9)": "3", "ROWS(B2:B2)": "1", "COLS(B2:B2)": "1", "ROWS(A1)": "1", "COLS(A1)": "1", "ROWS(Z9)": "1", "COLS(K1)": "1", "ROWS(A1:AX1000)": "1000", "COLS(A1:AX1000)": "50", "ROWS(AX1000)": "1", "COLS(AX1000)": "1", "ROWS(K1:K8)": "8", "COLS(C9:B7)": "2", "ROWS(C9:B7)": "3",
		"ROWS(5)": "#REF", "COLS(5)": "#REF", "ROWS(1/0)": "#REF", "COLS(1/0)": "#REF", "ROWS(-A1)": "#REF", "ROWS(A1+0)": "#REF", `COLS("A1")`: "#REF", "ROWS(IF(TRUE,A1:A9,1))": "#REF", "COLS(NOPE())": "#REF", "ROWS(SUM())": "#REF", "ROWS(TRUE)": "#REF", "COLS(INDEX(A1:B2,1,1))": "#REF", "ROWS(-B1)": "#REF",
		"INDEX(A1:C3,1,1)": "5", "INDEX(A1:C3,3,2)": "7", "INDEX(A1:C3,2,3)": `"x"`, "INDEX(A1:C3,3,3)": "0", "INDEX(B2:C3,1,1)": "-7", "INDEX(B2:C3,2,1)": "7", "INDEX(B2:C3,1,2)": `"x"`, "INDEX(A1,1,1)": "5", "INDEX(AX1000,1,1)": "50000", "INDEX(A1:AX1000,1000,50)": "50000", "INDEX(A1:AX1000,1000,1)": "1000", "INDEX(A1:AX1000,1,50)": "50", "INDEX(A1:A9,TRUE,\"1\")": "5", "INDEX(K1:K8,6,1)": "#LOOP", "INDEX(K2,1,1)": "#OVER", "INDEX(Z9,1,1)": "0", "INDEX(C3:A1,1,2)": `"ab"`,
		"INDEX(A1:C3,4,1)": "#REF", "INDEX(A1:C3,1,4)": "#REF", "INDEX(A1:C3,0,1)": "#REF", "INDEX(A1:C3,1,0)": "#REF", "INDEX(A1:C3,-1,1)": "#REF", "INDEX(A1:C3,1,-1)": "#REF", "INDEX(A1:C3,Z9,1)": "#REF", "INDEX(A1,1,2)": "#REF", "INDEX(A1,2,1)": "#REF", "INDEX(A1,0,1)": "#REF", "INDEX(A1:AX1000,1001,1)": "#REF", "INDEX(A1:AX1000,1,51)": "#REF", "INDEX(A1:C3,G1,1)": "#REF", "INDEX(A1:C3,1,H1)": "#REF", "INDEX(A1:C3,4294967297,1)": "#REF", "INDEX(A1:C3,1,4294967297)": "#REF", "INDEX(A1:C3,4,K1)": "#DIV", "INDEX(A1:B9,1,3)": "#REF", "INDEX(A1:I2,3,1)": "#REF",
		"INDEX(5,1,1)": "#REF", "INDEX(1/0,1,1)": "#REF", "INDEX(-A1,1,1)": "#REF", "INDEX(IF(TRUE,A1,1),1,1)": "#REF", "INDEX(NOPE(),1,1)": "#REF", "INDEX(5,B1,1/0)": "#TYPE", "INDEX(5,1/0,B1)": "#DIV", "INDEX(5,1,K6)": "#LOOP", "INDEX(A1:C3,1,1/0)": "#DIV", "INDEX(A1:C3,K2,K1)": "#OVER", "INDEX(A1:C3,9,E1)": "#TYPE", "INDEX(A1:C3,A1:A1,K1)": "#REF", "INDEX(1/0,B1,1)": "#TYPE", "INDEX(K1,K2,1)": "#OVER",
		"MATCH(7,A1:C3)": "8", "MATCH(5,A1:C3)": "1", "MATCH(\"ab\",A1:C3)": "2", "MATCH(TRUE,A1:C3)": "3", "MATCH(\"x\",A1:C3)": "6", "MATCH(-7,A1:C3)": "5", "MATCH(-7,B1:B3)": "2", "MATCH(7,B1:B3)": "3", "MATCH(7,B3:D3)": "1", "MATCH(2,B3:D3)": "3", "MATCH(50000,A1:AX1000)": "50000", "MATCH(1000,A1:AX1000)": "49951", "MATCH(50,A1:AX1000)": "50", "MATCH(5,A1)": "1", "MATCH(A1,A1)": "1", "MATCH(6,A1)": "#NONE", "MATCH(6,A1:C3)": "#NONE", "MATCH(\"5\",A1:C3)": "#NONE", "MATCH(1,C1)": "#NONE", "MATCH(\"TRUE\",C1)": "#NONE", "MATCH(0,A1:C3)": "4", "MATCH(0,Z1:Z9)": "#NONE", "MATCH(E1,A1:J1)": "5", "MATCH(\"\",Z1:Z9)": "#NONE", "MATCH(\"ab\",A1:E3)": "2", "MATCH(\"ab\",C2:E3)": "6", "MATCH(1+2,L5:M7)": "3", "MATCH(\"y\",L5:M7)": "5",
		"MATCH(Z9,A1:C3)": "#NONE", "MATCH(Z9,Z1:Z9)": "#NONE", "MATCH(Z9,Z8)": "#NONE", "MATCH(IF(TRUE,Z9,1),A1:C3)": "#NONE", "MATCH(K1,K1:K8)": "#DIV", "MATCH(K6,A1:C3)": "#LOOP", "MATCH(1/0,L5:M7)": "#DIV", "MATCH(A1:A1,A1:C3)": "#REF", "MATCH(K3,K2)": "#TYPE", "MATCH(1,K1)": "#NONE", "MATCH(1,K1:K8)": "#NONE",
		"MATCH(5,5)": "#REF", "MATCH(K1,5)": "#REF", "MATCH(1/0,2)": "#REF", "MATCH(5,-A1)": "#REF", "MATCH(5,A1+0)": "#REF", "MATCH(5,K1+0)": "#REF", "MATCH(5,1/0)": "#REF", "MATCH(5,IF(TRUE,A1,1))": "#REF", "MATCH(NOPE(),NOPE())": "#REF", "MATCH(5,INDEX(A1:A1,1,1))": "#REF", "MATCH(Z9,\"x\")": "#REF",
	})
}

// asks are signs and functions that ask all of their Args: each letter is an Arg, asked as a value (v), a number (n), a truth (f) or a text (s).
func asks() map[string][]string {
	l := map[string][]string{"-": {"n"}, "NOT": {"f"}, "LEFT": {"sn"}, "RIGHT": {"sn"}, "REPT": {"sn"}, "EXACT": {"ss"}, "GCD": {"nn"}, "MID": {"snn"}, "FIND": {"ss", "ssn"}, "JOIN": {"s", "ss", "ssssssssss"}}
	for _, name := range []string{"ABS", "SIGN", "VALUE"} {
		l[name] = []string{"n"}
	}
	for _, name := range []string{"LEN", "UPPER", "LOWER", "TEXT"} {
		l[name] = []string{"s"}
	}
	for _, name := range []string{"SUM", "PRODUCT", "MIN", "MAX", "AVG"} {
		l[name] = []string{"n", "nnn", "nnnnnnnnnn"}
	}
	for _, name := range []string{"AND", "OR"} {
		l[name] = []string{"f", "fff", "ffffffffff"}
	}
	return l
}

// asked is a formula of those Args: a sign between two, one ahead of one, or a call.
func askedOf(name string, args ...string) string {
	switch {
	case name >= "A" && name <= "ZZ":
		return name + "(" + strings.Join(args, ",") + ")"
	case len(args) == 1:
		return name + "(" + args[0] + ")"
	}
	return "(" + args[0] + ")" + name + "(" + args[1] + ")"
}

// right is an Arg for each letter, wrong some that can't be had as it.
var right = map[rune]string{'v': "1", 'n': "1", 'f': "1", 's': "\"a\""}

var wrong = map[rune][]string{'n': {"B1", "E1", "D2", `"1.5"`, `"01"`, `"+1"`, `" 1"`, `"9223372036854775808"`, "I1"}, 'f': {"B1", "E1", "D1", "J2", `"1"`, `"True"`, `"TRUE "`, "I1"}}

// P11.2: a fault in each place where a value is asked is told; of two of them the first one, which may be a value that can't be had as what is asked.
func TestFaultsInEachPlace(t *testing.T) {
	l := asks()
	for _, sign := range []string{"+", "-", "*", "/", "%", "^"} {
		l[sign] = append(l[sign], "nn")
	}
	for _, sign := range []string{"=", "<>", "<", "<=", ">", ">="} {
		l[sign] = append(l[sign], "vv")
	}
	l["&"] = []string{"ss"}
	for name, forms := range l {
		for _, form := range forms {
			args := []string{}
			for _, letter := range form {
				args = append(args, right[letter])
			}
			if got := Of(parsed(t, askedOf(name, args...)), sheet()); got.Kind == api.Fault {
				t.Errorf("%s: %s", askedOf(name, args...), told(got))
			}
			for i, letter := range form {
				faultAt(t, name, args, i, letter)
			}
		}
	}
}

// faultAt puts what is a fault in the i-th Arg's place, alone and with faults behind it.
func faultAt(t *testing.T, name string, args []string, i int, letter rune) {
	t.Helper()
	wants := map[string]string{"1/0": "#DIV", "NOPE(K1)": "#NONE", "ABS()": "#ARG", "-H1": "#OVER", "I1&1": "#LONG"}
	for code := range int64(8) {
		wants[fmt.Sprintf("K%d", code+1)] = told(fault(code + 1))
	}
	if !slices.Contains(many, name) {
		wants["A1:B2"], wants["Z9:Z9"] = "#REF", "#REF"
	}
	for _, s := range wrong[letter] {
		wants[s] = "#TYPE"
	}
	for s, want := range wants {
		bad := slices.Clone(args)
		bad[i] = s
		comes(t, sheet(), askedOf(name, bad...), want)
		for k := i + 1; k < len(args); k++ {
			for _, other := range []string{"K1", "K6", "B1", "NOPE()"} {
				worse := slices.Clone(bad)
				worse[k] = other
				comes(t, sheet(), askedOf(name, worse...), want)
			}
		}
	}
}

// takes are all functions, each with the least and the greatest number of its Args.
var takes = allTakes()

func allTakes() map[string][2]int {
	l := map[string][2]int{"FIND": {2, 3}, "CHOOSE": {2, 10}, "MID": {3, 3}, "IF": {3, 3}, "INDEX": {3, 3}}
	for _, name := range many {
		l[name] = [2]int{1, 10}
	}
	for _, name := range strings.Fields("NOT ABS SIGN LEN UPPER LOWER VALUE TEXT ISERR ISEMPTY ISINT ISTEXT ISBOOL ROWS COLS") {
		l[name] = [2]int{1, 1}
	}
	for _, name := range strings.Fields("LEFT RIGHT REPT EXACT GCD IFERR MATCH") {
		l[name] = [2]int{2, 2}
	}
	return l
}

// P11.1: Takes tells each function's Args, and nothing of other names.
func TestTakes(t *testing.T) {
	others := []string{"", " ", "A1", "NOPE", "sum", "Sum", "SUMS", "SU", "IFS", "AVERAGE", "CONCAT", "TRUE", "FALSE", "+", "-", "&", "=SUM", "SUM(", "#REF", "S\u016aM", "\u017fUM", strings.Repeat("SUM", 1<<20)}
	for name, want := range takes {
		if least, most, ok := Takes(name); least != want[0] || most != want[1] || !ok {
			t.Errorf("%s: %d %d %v", name, least, most, ok)
		}
		others = append(others, strings.ToLower(name), strings.ToLower(name[:1])+name[1:], name[:1]+strings.ToLower(name[1:]), " "+name, name+" ", name+"1", name+"X", "X"+name, name+"\x00", "\x00"+name, name[:len(name)-1]+"\x00", name+name)
	}
	for _, name := range others {
		if least, most, ok := Takes(name); least != 0 || most != 0 || ok {
			t.Errorf("%.40q: %d %d %v", name, least, most, ok)
		}
	}
}

// P11.2: as many Args as a function takes, and one fewer or more: the fault Args, whatever they are; None, if there is no such function.
func TestHowManyArgs(t *testing.T) {
	for name, bounds := range takes {
		for n := range 11 {
			for _, arg := range []string{"1", "K1", "Z9", "A1:B2", "NOPE()"} {
				s := askedOf(name, slices.Repeat([]string{arg}, n)...)
				got := Of(parsed(t, s), sheet())
				if n < bounds[0] || n > bounds[1] {
					comes(t, sheet(), s, "#ARG")
					continue
				}
				// These have the fault Args for other reasons: a place or a number that is 0 or too great.
				if got == fault(api.Args) && name != "CHOOSE" && !(arg == "Z9" && (name == "MID" || name == "FIND")) {
					t.Errorf("%s: too few or too many", s)
				}
			}
		}
	}
	for _, name := range []string{"NOPE", "SUMS", "X", "A1", "AVERAGE", "SU", "TRUE1", "NOTS", "Z9"} {
		for n := range 11 {
			for _, arg := range []string{"1", "K3", "A1:B2", "ABS()"} {
				comes(t, sheet(), askedOf(name, slices.Repeat([]string{arg}, n)...), "#NONE")
			}
		}
	}
	all(t, sheet(), map[string]string{"SUM()": "#ARG", "ABS(1,2)": "#ARG", "ABS(K1,K2)": "#ARG", "FIND(1)": "#ARG", "FIND(K1,K1,K1,K1)": "#ARG", "TRUE()": "#NONE", "FALSE()": "#NONE", "SUM(ABS())": "#ARG", "COUNTA(ABS())": "1"})
}

// P11.2: names that no tree may have, in trees that are not good.
func TestNamesThatAreNone(t *testing.T) {
	for _, name := range []string{"", "sum", "Sum", "ABSOLUTES", "SUM ", " SUM", "1", "+", "#REF", "S_M", "\u00c9", strings.Repeat("A", 1<<20)} {
		n := api.Node{Kind: api.Call, Op: name, Args: []api.Node{{Kind: api.Const, V: integer(1)}}}
		if got := Of(n, sheet()); got != fault(api.Args) {
			t.Errorf("%.40q: %s", name, told(got))
		}
	}
}

// P11.2: a tree that is not good is the fault Args, wherever in it that stands, asked or not.
func TestWrongTrees(t *testing.T) {
	one := api.Node{Kind: api.Const, V: integer(1)}
	node := func(kind int, op string, args ...api.Node) api.Node { return api.Node{Kind: kind, Op: op, Args: args} }
	place := func(kind int, r api.Rect) api.Node { return api.Node{Kind: kind, R: r} }
	square := api.Rect{From: cell("A1"), To: cell("B2")}
	endless := node(api.Call, "SUM", make([]api.Node, 1)...)
	endless.Args[0] = endless
	deep, wide := one, node(api.Call, "SUM", one)
	for range 16 {
		deep = node(api.Neg, "", deep)
	}
	for range 4 {
		wide = node(api.Call, "SUM", slices.Repeat([]api.Node{wide}, 10)...)
	}
	bad := []api.Node{
		{}, {Kind: 7}, {Kind: -1}, {Kind: math.MinInt}, {Kind: api.Const}, {Kind: api.Const, V: integer(-1)}, {Kind: api.Const, V: integer(bottom)}, {Kind: api.Const, V: fault(api.Div)}, {Kind: api.Const, V: words(overText)}, {Kind: api.Const, V: boolean(2)}, {Kind: api.Const, V: integer(1), Op: "+"}, {Kind: api.Const, V: integer(1), Args: []api.Node{one}},
		place(api.Cell, api.Rect{}), place(api.Cell, api.Rect{From: api.Addr{Row: 1001, Col: 1}}), place(api.Cell, api.Rect{From: api.Addr{Row: 1, Col: 51}}), place(api.Cell, square), place(api.Range, api.Rect{}), place(api.Range, api.Rect{From: square.To, To: square.From}), place(api.Range, api.Rect{From: cell("A1")}), {Kind: api.Range, R: square, V: integer(1)},
		node(api.Neg, ""), node(api.Neg, "", one, one), node(api.Neg, "-", one), node(api.Binary, "+"), node(api.Binary, "+", one), node(api.Binary, "+", one, one, one), node(api.Binary, "", one, one), node(api.Binary, "!", one, one), node(api.Binary, "==", one, one), node(api.Binary, "SUM", one, one),
		node(api.Call, "SUM", slices.Repeat([]api.Node{one}, 11)...), node(api.Call, "", one), {Kind: api.Call, Op: "SUM", Args: []api.Node{one}, V: integer(1)}, {Kind: api.Call, Op: "SUM", Args: []api.Node{one}, R: square},
		endless, deep, wide,
	}
	for i, n := range bad {
		for _, within := range []api.Node{n, node(api.Neg, "", n), node(api.Binary, "+", one, n), node(api.Call, "SUM", n), node(api.Call, "IF", one, one, n), node(api.Call, "IFERR", n, one), node(api.Call, "ISERR", n), node(api.Call, "NOPE", n)} {
			for _, l := range [][]api.Entry{nil, sheet()} {
				if got := Of(within, l); got != fault(api.Args) {
					t.Errorf("%d: %s", i, told(got))
				}
			}
		}
	}
	if got := Of(deep.Args[0], nil); got != integer(-1) {
		t.Error("as deep as may be", told(got))
	}
}

// badEntries are lists that are not good, each but for one thing.
func badEntries() map[string][]api.Entry {
	at := func(row, col int, v api.Value) api.Entry { return api.Entry{A: api.Addr{Row: row, Col: col}, V: v} }
	x := integer(1)
	l := map[string][]api.Entry{
		"one place twice": {at(1, 1, x), at(1, 1, x)}, "twice, unlike": {at(1, 1, x), at(2, 2, x), at(2, 2, integer(2))}, "back in a row": {at(1, 2, x), at(1, 1, x)}, "back by a row": {at(2, 1, x), at(1, 9, x)}, "back by column and row": {at(2, 2, x), at(1, 1, x)}, "back at the end": {at(1, 1, x), at(1, 3, x), at(1, 2, x)}, "back at the beginning": {at(1, 2, x), at(1, 1, x), at(1, 3, x), at(1, 4, x)}, "back on the way": {at(1, 1, x), at(3, 1, x), at(2, 1, x), at(4, 1, x)}, "column by column": {at(1, 1, x), at(2, 1, x), at(1, 2, x), at(2, 2, x)},
		"row 0": {at(0, 1, x)}, "column 0": {at(1, 0, x)}, "row 1001": {at(1, 1, x), at(1001, 1, x)}, "column 51": {at(1, 1, x), at(1, 51, x)}, "below 0": {at(-1, 1, x), at(1, 1, x)}, "column below 0": {at(1, -1, x)}, "far away": {at(1, 1, x), at(math.MaxInt, math.MaxInt, x)}, "far back": {at(math.MinInt, math.MinInt, x), at(1, 1, x)}, "goes round": {at(1, 1, x), at(1<<32+2, 1, x)}, "zero": {{}}, "zero ahead": {{V: x}, at(1, 1, x)},
	}
	for i, v := range []api.Value{void, {N: 1}, {S: "x"}, boolean(2), boolean(-1), {Kind: api.Bool, N: 1, S: "x"}, {Kind: api.Int, N: 1, S: "x"}, {Kind: api.Text, N: 1, S: "x"}, words(overText), fault(0), fault(9), {Kind: api.Fault, N: 1, S: "x"}, {Kind: 5}, {Kind: -1, N: 1}, {Kind: 1<<32 + 2}} {
		l[fmt.Sprintf("value %d", i)] = []api.Entry{at(3, 1, v)}
		l[fmt.Sprintf("value %d at the beginning", i)] = []api.Entry{at(1, 1, v), at(3, 1, x)}
		l[fmt.Sprintf("value %d behind", i)] = []api.Entry{at(1, 1, x), at(3, 1, v)}
		l[fmt.Sprintf("value %d between", i)] = []api.Entry{at(1, 1, x), at(1, 2, v), at(3, 1, x)}
	}
	return l
}

// P11.1, P11.2: of entries that are not good Good is false, Get Empty and Of the fault Args, whatever is asked.
func TestWrongEntries(t *testing.T) {
	for name, l := range badEntries() {
		if Good(l) {
			t.Error(name)
		}
		for _, a := range []api.Addr{cell("A1"), cell("A2"), cell("B1"), cell("A3"), cell("AX1000"), {}, {Row: 1001, Col: 1}} {
			if got := Get(l, a); got != void {
				t.Errorf("%s: %v is %v", name, a, got)
			}
		}
		for _, s := range []string{"A1", "1", "Z9", "SUM(A1:B2)", "IFERR(A1,1)", "ISERR(A1)", "NOPE()"} {
			comes(t, l, s, "#ARG")
		}
		if Of(api.Node{}, l) != fault(api.Args) {
			t.Error(name, "and a tree that is not good")
		}
	}
}

// P11.1: good entries, and what their cells hold.
func TestGoodAndGet(t *testing.T) {
	full := []api.Entry{}
	for row := 1; row <= 1000; row++ {
		for col := 1; col <= 50; col++ {
			full = append(full, api.Entry{A: api.Addr{Row: row, Col: col}, V: integer(int64(row*100 + col))})
		}
	}
	for name, l := range map[string][]api.Entry{"none": nil, "an empty one": {}, "the sheet": sheet(), "first": laid(map[string]api.Value{"A1": words("")}), "last": laid(map[string]api.Value{"AX1000": fault(8)}), "both": laid(map[string]api.Value{"A1": boolean(0), "AX1000": integer(0)}), "a row": full[100:150], "from a row to the next": full[49:51], "a part": full[7:333]} {
		if !Good(l) {
			t.Error(name)
		}
		holds := map[api.Addr]api.Value{}
		for _, e := range l {
			holds[e.A] = e.V
		}
		for row := -1; row <= 1002; row++ {
			if row > 12 && row < 998 {
				continue
			}
			for col := -1; col <= 52; col++ {
				if a := (api.Addr{Row: row, Col: col}); Get(l, a) != holds[a] {
					t.Errorf("%s: %v is %v", name, a, Get(l, a))
				}
			}
		}
		for _, a := range []api.Addr{{Row: math.MinInt, Col: 1}, {Row: math.MaxInt, Col: 50}, {Row: 1, Col: math.MaxInt}, {Row: 1<<32 + 1, Col: 1}, {Row: 1, Col: 1<<32 + 1}} {
			if Get(l, a) != void {
				t.Errorf("%s: %v", name, a)
			}
		}
	}
	if !Good(full) || Get(full, cell("C7")) != integer(703) || Get(full, cell("AX1000")) != integer(100050) {
		t.Error("a full grid")
	}
	all(t, full, map[string]string{"SUM(A1:AX1000)": "2503775000", "COUNT(A1:AX1000)": "50000", "MAX(A1:AX1000)": "100050", "MATCH(100050,A1:AX1000)": "50000", "SUM(B2:C3)": "1010", "INDEX(A1:AX1000,999,49)": "99949", "JOIN(A1:AX1000)": "#LONG"})
}

// Rule 2: what is handed in stays as it is, its spare room too, and texts that are told are new memory.
func TestMemory(t *testing.T) {
	room := append(sheet(), api.Entry{A: cell("B1"), V: words("behind")}, api.Entry{A: cell("A1"), V: words("behind")})
	l := room[:len(room)-2]
	before := slices.Clone(room)
	for _, s := range []string{"A1", "SUM(A1:AX1000)", "JOIN(B1,A1:C3,\"x\")", "MATCH(5,A1:C3)", "INDEX(A1:C3,2,3)", "IF(C1,B1,K1)", "-A1&B1"} {
		args := append(parsed(t, "F("+s+",1,2)").Args, parsed(t, "K1"))
		n := api.Node{Kind: api.Call, Op: "COUNTA", Args: args[:1]}
		kept := tree.Copy(api.Node{Args: args})
		Of(n, l)
		Of(args[0], l)
		if !tree.Same(kept, api.Node{Args: args}) || !slices.Equal(room, before) {
			t.Error(s, "has changed")
		}
	}
	b1 := l[slices.IndexFunc(l, func(e api.Entry) bool { return e.A == cell("B1") })].V.S
	for _, s := range []string{"B1", "\"ab\"", "IF(TRUE,B1,1)", "IFERR(K1,\"ab\")", "CHOOSE(1,B1)", "INDEX(A1:C1,1,2)", "B1&Z9", "JOIN(B1)", "TEXT(B1)", "LOWER(B1)", "LEFT(B1,2)", "MID(B1,1,9)", "REPT(B1,1)", "IF(FALSE,1,\"ab\")"} {
		n := parsed(t, s)
		held := []string{b1}
		for _, part := range append(slices.Clone(n.Args), n) {
			held = append(held, part.V.S)
		}
		apart(t, s, func() string { return Of(n, l).S }, held)
	}
	apart(t, "Get", func() string { return Get(l, cell("B1")).S }, []string{b1})
}

// apart holds that two answers of "ab" share nothing with each other, nor with what was held.
func apart(t *testing.T, name string, call func() string, held []string) {
	t.Helper()
	one, other := call(), call()
	if one != "ab" || other != "ab" || unsafe.StringData(one) == unsafe.StringData(other) {
		t.Errorf("%s: %q, %q", name, one, other)
	}
	for _, s := range held {
		if s == "ab" && (unsafe.StringData(s) == unsafe.StringData(one) || unsafe.StringData(s) == unsafe.StringData(other)) {
			t.Errorf("%s shares its text", name)
		}
	}
}
