package num

import (
	"math"
	"math/big"
	"strconv"
	"strings"
	"testing"

	"liquidcheck/api"
)

const top = api.MaxInt

// operation is one of the functions of two integers that can have no result.
type operation func(a, b int) (int, bool)

// example is a call of an operation and what it must return.
type example struct {
	a, b, n int
	ok      bool
}

func checkExamples(t *testing.T, name string, f operation, l []example) {
	t.Helper()
	for _, c := range l {
		if n, ok := f(c.a, c.b); n != c.n || ok != c.ok {
			t.Errorf("%s(%d, %d) = %d, %v; want %d, %v", name, c.a, c.b, n, ok, c.n, c.ok)
		}
	}
}

// notable returns small numbers, numbers whose products, sums and quotients lie at the bounds, the numbers next to the bounds, and numbers far beyond them.
func notable() []int {
	l := []int{0, math.MinInt, math.MinInt + 1, math.MinInt + 2}
	for _, n := range []int{
		1, 2, 3, 4, 6, 7, 10, 12, 18, 97, 1000,
		999999, 1000000, 1000001,
		1 << 31, 1<<32 - 1, 1 << 32,
		top / 3, top/2 - 1, top / 2, top/2 + 1,
		top - 2, top - 1, top, top + 1, top + 2, 2 * top, 3*top + 1,
		1 << 62, math.MaxInt - 1, math.MaxInt,
	} {
		l = append(l, n, -n)
	}
	return l
}

// eachPair calls f with every pair of notable numbers and every pair of small ones.
func eachPair(f func(a, b int)) {
	l := notable()
	for _, a := range l {
		for _, b := range l {
			f(a, b)
		}
	}
	for a := -30; a <= 30; a++ {
		for b := -30; b <= 30; b++ {
			f(a, b)
		}
	}
}

func exact(n int) *big.Int {
	return big.NewInt(int64(n))
}

func within(n *big.Int) bool {
	return new(big.Int).Abs(n).Cmp(exact(top)) <= 0
}

// checkExact compares an operation with one on numbers of any size.
func checkExact(t *testing.T, name string, f operation, g func(a, b *big.Int) *big.Int) {
	t.Helper()
	eachPair(func(a, b int) {
		want := g(exact(a), exact(b))
		ok := within(exact(a)) && within(exact(b)) && within(want)
		if !ok {
			want = new(big.Int)
		}
		if n, is := f(a, b); exact(n).Cmp(want) != 0 || is != ok {
			t.Errorf("%s(%d, %d) = %d, %v; want %v, %v", name, a, b, n, is, want, ok)
		}
	})
}

// P1.1

func TestInTakesJustTheNumbersFromMinusMaxIntToMaxInt(t *testing.T) {
	for _, n := range []int{0, 1, -1, 1000, top - 1, top, -top + 1, -top} {
		if !In(n) {
			t.Errorf("In(%d) is false", n)
		}
	}
	for _, n := range []int{top + 1, -top - 1, top + 2, 2 * top, -2 * top, math.MaxInt, math.MinInt, math.MinInt + 1} {
		if In(n) {
			t.Errorf("In(%d) is true", n)
		}
	}
}

// P1.2

func TestAddIsExactInBounds(t *testing.T) {
	checkExamples(t, "Add", Add, []example{
		{2, 3, 5, true}, {-2, -3, -5, true}, {0, 0, 0, true}, {7, -7, 0, true},
		{top, 0, top, true}, {0, -top, -top, true}, {top - 1, 1, top, true}, {-top + 1, -1, -top, true}, {top, -top, 0, true},
		{top, 1, 0, false}, {1, top, 0, false}, {-top, -1, 0, false}, {top, top, 0, false}, {-top, -top, 0, false},
		{top + 1, -1, 0, false}, {-1, top + 1, 0, false}, {-top - 1, 1, 0, false}, {1, -top - 1, 0, false}, {top + 1, -top - 1, 0, false},
		{math.MaxInt, math.MaxInt, 0, false}, {math.MinInt, math.MinInt, 0, false}, {math.MaxInt, math.MinInt, 0, false},
	})
	checkExact(t, "Add", Add, func(a, b *big.Int) *big.Int { return a.Add(a, b) })
}

func TestSubIsExactInBounds(t *testing.T) {
	checkExamples(t, "Sub", Sub, []example{
		{2, 3, -1, true}, {3, 2, 1, true}, {-2, -3, 1, true}, {0, 0, 0, true},
		{top, top, 0, true}, {-top, -top, 0, true}, {0, top, -top, true}, {0, -top, top, true}, {top - 1, -1, top, true}, {-top + 1, 1, -top, true},
		{top, -1, 0, false}, {-top, 1, 0, false}, {top, -top, 0, false}, {-top, top, 0, false},
		{top + 1, 1, 0, false}, {1, top + 1, 0, false}, {-top - 1, -1, 0, false}, {top + 1, top + 1, 0, false},
		{0, math.MinInt, 0, false}, {math.MinInt, math.MinInt, 0, false}, {math.MaxInt, math.MinInt, 0, false},
	})
	checkExact(t, "Sub", Sub, func(a, b *big.Int) *big.Int { return a.Sub(a, b) })
}

func TestMulIsExactInBounds(t *testing.T) {
	checkExamples(t, "Mul", Mul, []example{
		{2, 3, 6, true}, {-2, 3, -6, true}, {2, -3, -6, true}, {-2, -3, 6, true}, {0, 0, 0, true},
		{0, top, 0, true}, {-top, 0, 0, true}, {1, top, top, true}, {-1, top, -top, true}, {-top, -1, top, true},
		{1000000, 1000000, top, true}, {1000000, -1000000, -top, true}, {-1000000, -1000000, top, true}, {top / 2, 2, top, true}, {999999, 1000001, top - 1, true},
		{1000001, 1000000, 0, false}, {1000000, 1000001, 0, false}, {-1000001, 1000000, 0, false}, {-1000001, -1000000, 0, false}, {top/2 + 1, 2, 0, false}, {-2, top/2 + 1, 0, false},
		{top, top, 0, false}, {top, -top, 0, false}, {-top, -top, 0, false}, {top, 2, 0, false}, {1 << 32, 1 << 32, 0, false},
		{0, top + 1, 0, false}, {top + 1, 0, 0, false}, {0, math.MinInt, 0, false}, {math.MinInt, -1, 0, false}, {-1, math.MinInt, 0, false}, {math.MaxInt, math.MaxInt, 0, false},
	})
	checkExact(t, "Mul", Mul, func(a, b *big.Int) *big.Int { return a.Mul(a, b) })
}

// P1.3

func TestDivRoundsDown(t *testing.T) {
	checkExamples(t, "Div", Div, []example{
		{7, 2, 3, true}, {-7, 2, -4, true}, {7, -2, -4, true}, {-7, -2, 3, true},
		{8, 2, 4, true}, {-8, 2, -4, true}, {8, -2, -4, true}, {-8, -2, 4, true},
		{0, 3, 0, true}, {0, -3, 0, true}, {1, 2, 0, true}, {-1, 2, -1, true}, {1, -2, -1, true}, {-1, -2, 0, true},
		{top, 1, top, true}, {top, -1, -top, true}, {-top, 1, -top, true}, {-top, -1, top, true}, {top, top, 1, true}, {-top, top, -1, true},
		{1, top, 0, true}, {-1, top, -1, true}, {1, -top, -1, true}, {top, top - 1, 1, true}, {-top, top - 1, -2, true}, {top, -top + 1, -2, true}, {top - 1, top, 0, true},
		{5, 0, 0, false}, {0, 0, 0, false}, {-top, 0, 0, false}, {top + 1, 0, 0, false},
		{top + 1, 1, 0, false}, {-top - 1, 1, 0, false}, {1, top + 1, 0, false}, {1, -top - 1, 0, false}, {top + 1, top + 1, 0, false},
		{math.MinInt, -1, 0, false}, {math.MinInt, 1, 0, false}, {0, math.MinInt, 0, false}, {math.MaxInt, math.MaxInt, 0, false},
	})
}

func TestModIsWhatDivLeaves(t *testing.T) {
	checkExamples(t, "Mod", Mod, []example{
		{7, 2, 1, true}, {-7, 2, 1, true}, {7, -2, -1, true}, {-7, -2, -1, true},
		{8, 2, 0, true}, {-8, 2, 0, true}, {8, -2, 0, true}, {-8, -2, 0, true},
		{7, 5, 2, true}, {-7, 5, 3, true}, {7, -5, -3, true}, {-7, -5, -2, true},
		{0, 3, 0, true}, {0, -3, 0, true}, {5, 1, 0, true}, {5, -1, 0, true}, {-5, -1, 0, true},
		{1, top, 1, true}, {-1, top, top - 1, true}, {1, -top, -top + 1, true}, {-1, -top, -1, true}, {top, top, 0, true}, {-top, top, 0, true}, {top, top - 1, 1, true}, {-top, top - 1, top - 2, true},
		{5, 0, 0, false}, {0, 0, 0, false}, {top, 0, 0, false},
		{top + 1, 2, 0, false}, {-top - 1, 2, 0, false}, {1, top + 1, 0, false}, {1, -top - 1, 0, false},
		{math.MinInt, -1, 0, false}, {math.MinInt, 3, 0, false}, {3, math.MinInt, 0, false}, {math.MaxInt, 10, 0, false},
	})
}

func TestDivAndModAgreeWithTheExactQuotient(t *testing.T) {
	eachPair(func(a, b int) {
		q, divided := Div(a, b)
		m, left := Mod(a, b)
		if b == 0 || !within(exact(a)) || !within(exact(b)) {
			if q != 0 || m != 0 || divided || left {
				t.Errorf("Div and Mod of %d and %d are %d, %v and %d, %v", a, b, q, divided, m, left)
			}
			return
		}
		want := floor(exact(a), exact(b))
		rest := new(big.Int).Sub(exact(a), new(big.Int).Mul(exact(b), want))
		if !divided || exact(q).Cmp(want) != 0 || !left || exact(m).Cmp(rest) != 0 {
			t.Errorf("Div and Mod of %d and %d are %d, %v and %d, %v; want %v and %v", a, b, q, divided, m, left, want, rest)
		}
	})
}

// floor divides by a positive number, for which the quotient of math/big is rounded down.
func floor(a, b *big.Int) *big.Int {
	if b.Sign() < 0 {
		a, b = new(big.Int).Neg(a), new(big.Int).Neg(b)
	}
	return new(big.Int).Div(a, b)
}

// P1.4

func TestGcdTakesAnyIntegers(t *testing.T) {
	for _, c := range [][3]int{
		{12, 18, 6}, {-12, 18, 6}, {12, -18, 6}, {-12, -18, 6}, {7, 9, 1}, {1, 1, 1}, {-1, 5, 1}, {21, 7, 7}, {7, 21, 7},
		{0, 0, 0}, {5, 0, 5}, {0, 5, 5}, {-5, 0, 5}, {0, -5, 5}, {top, 0, top}, {0, -top, top},
		{top, -top, top}, {top, top - 1, 1}, {top + 1, 0, top + 1}, {2 * top, 3 * top, top},
		{math.MaxInt, 0, math.MaxInt}, {math.MaxInt, math.MaxInt, math.MaxInt}, {math.MinInt + 1, 0, math.MaxInt}, {math.MaxInt, math.MaxInt - 1, 1}, {math.MaxInt, 49, 49},
		{math.MinInt, 0, top}, {0, math.MinInt, top}, {math.MinInt, math.MinInt, top}, {math.MinInt, 3000, 1000}, {3000, math.MinInt, 1000}, {math.MinInt, -top, top}, {math.MinInt, 3, 1}, {math.MinInt, 1 << 62, 4096},
		{7540113804746346429, 4660046610375530309, 1},
	} {
		if n := Gcd(c[0], c[1]); n != c[2] {
			t.Errorf("Gcd(%d, %d) = %d; want %d", c[0], c[1], n, c[2])
		}
	}
}

func TestGcdIsTheGreatestCommonDivisor(t *testing.T) {
	eachPair(func(a, b int) {
		want := new(big.Int).GCD(nil, nil, absolute(a), absolute(b))
		if n := Gcd(a, b); exact(n).Cmp(want) != 0 {
			t.Errorf("Gcd(%d, %d) = %d; want %v", a, b, n, want)
		}
	})
}

func absolute(n int) *big.Int {
	if n == math.MinInt {
		return exact(top)
	}
	return new(big.Int).Abs(exact(n))
}

// P1.5

func TestTextIsDecimalNotation(t *testing.T) {
	for _, c := range []struct {
		n int
		s string
	}{
		{0, "0"}, {1, "1"}, {-1, "-1"}, {9, "9"}, {10, "10"}, {-10, "-10"}, {1200, "1200"}, {-5, "-5"}, {100003, "100003"},
		{top, "1000000000000"}, {-top, "-1000000000000"}, {top - 1, "999999999999"}, {top + 1, "1000000000001"}, {-top - 1, "-1000000000001"},
		{math.MaxInt, "9223372036854775807"}, {math.MinInt, "-9223372036854775808"}, {math.MinInt + 1, "-9223372036854775807"},
	} {
		if s := Text(c.n); s != c.s {
			t.Errorf("Text of %s is %q", c.s, s)
		}
	}
}

func TestParseReadsTextsOfNumbersInBounds(t *testing.T) {
	for _, c := range []struct {
		s string
		n int
	}{
		{"0", 0}, {"5", 5}, {"-5", -5}, {"9", 9}, {"10", 10}, {"-10", -10}, {"1234567890", 1234567890}, {"-100", -100},
		{"999999999999", top - 1}, {"-999999999999", -top + 1}, {"1000000000000", top}, {"-1000000000000", -top},
	} {
		if n, ok := Parse(c.s); n != c.n || !ok {
			t.Errorf("Parse(%q) = %d, %v", c.s, n, ok)
		}
	}
	for _, n := range notable() {
		want, ok := 0, within(exact(n))
		if ok {
			want = n
		}
		if m, is := Parse(strconv.Itoa(n)); m != want || is != ok {
			t.Errorf("Parse of the text of %d is %d, %v", n, m, is)
		}
		if m, is := Parse(Text(n)); m != want || is != ok {
			t.Errorf("Parse(Text(%d)) = %d, %v", n, m, is)
		}
	}
}

func TestParseRejectsAllOtherTexts(t *testing.T) {
	for _, s := range []string{
		"", "-", "+", "--", "-+", "00", "-0", "+0", "-00", "007", "-07", "01", "-01", "0001000000000000", "+5", "--5", "-+5", "+-5", "5-", "5+", "1-2",
		" 5", "5 ", "- 5", "5\n", "\t5", "5\x00", "\x00", "1 000", "1,000", "1_000", "1.0", "1e3", "0x10", "0b1", "0o7", "a", "5a", "a5", "/", ":", "1/", "1:", "\x80", "\xff5", "é", "٣", "５", "−5",
		"1000000000001", "-1000000000001", "1000000000010", "9999999999999", "10000000000000", "9223372036854775807", "-9223372036854775808", "9223372036854775808",
		"18446744073709551616", "18446744073709551617", "-18446744073709551617", "18446744073709551621", "36893488147419103237",
		strings.Repeat("9", 30), "-" + strings.Repeat("9", 30), strings.Repeat("9", 100000), strings.Repeat("0", 100000), strings.Repeat("0", 100000) + "7", "1" + strings.Repeat("0", 64), "1" + strings.Repeat("0", 100000), strings.Repeat("-", 100000), strings.Repeat(" ", 100000),
	} {
		if n, ok := Parse(s); n != 0 || ok {
			t.Errorf("Parse(%.40q) = %d, %v", s, n, ok)
		}
	}
}

func TestParseReadsShortTextsJustIfTheyAreTexts(t *testing.T) {
	texts := map[string]int{}
	for n := -99; n <= 999; n++ {
		texts[strconv.Itoa(n)] = n
	}
	check := func(s string) {
		want, ok := texts[s]
		if n, is := Parse(s); n != want || is != ok {
			t.Errorf("Parse(%q) = %d, %v; want %d, %v", s, n, is, want, ok)
		}
	}
	for a := range 256 {
		check(string([]byte{byte(a)}))
		for b := range 256 {
			check(string([]byte{byte(a), byte(b)}))
		}
	}
	signs := "0123456789+- /:"
	for _, a := range signs {
		for _, b := range signs {
			for _, c := range signs {
				check(string([]rune{a, b, c}))
			}
		}
	}
}

// P1.6

func TestModLiesBetweenZeroAndTheDivisor(t *testing.T) {
	eachPair(func(a, b int) {
		q, divided := Div(a, b)
		m, left := Mod(a, b)
		if divided != left {
			t.Errorf("just one of Div and Mod of %d and %d has a result", a, b)
		}
		if !left {
			return
		}
		if b > 0 && (m < 0 || m >= b) || b < 0 && (m > 0 || m <= b) {
			t.Errorf("Mod(%d, %d) = %d", a, b, m)
		}
		if a != q*b+m {
			t.Errorf("%d is not %d * %d + %d", a, q, b, m)
		}
	})
}

// P1.7

func TestSubUndoesAdd(t *testing.T) {
	undone := 0
	eachPair(func(a, b int) {
		n, ok := Add(a, b)
		if !ok {
			return
		}
		undone++
		if back, ok := Sub(n, b); back != a || !ok {
			t.Errorf("Sub(Add(%d, %d), %d) = %d, %v", a, b, b, back, ok)
		}
	})
	if undone < 1000 {
		t.Errorf("just %d sums have a result", undone)
	}
}

func TestDivUndoesMul(t *testing.T) {
	undone := 0
	eachPair(func(a, b int) {
		n, ok := Mul(a, b)
		if !ok || b == 0 {
			return
		}
		undone++
		if back, ok := Div(n, b); back != a || !ok {
			t.Errorf("Div(Mul(%d, %d), %d) = %d, %v", a, b, b, back, ok)
		}
	})
	if undone < 1000 {
		t.Errorf("just %d products have a result", undone)
	}
}

func TestAddAndMulTakeTheirArgumentsInAnyOrder(t *testing.T) {
	eachPair(func(a, b int) {
		n, ok := Add(a, b)
		if m, is := Add(b, a); m != n || is != ok {
			t.Errorf("Add(%d, %d) = %d, %v, but %d, %v in the other order", a, b, n, ok, m, is)
		}
		n, ok = Mul(a, b)
		if m, is := Mul(b, a); m != n || is != ok {
			t.Errorf("Mul(%d, %d) = %d, %v, but %d, %v in the other order", a, b, n, ok, m, is)
		}
	})
}
