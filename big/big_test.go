package big

import (
	"fmt"
	"math"
	exact "math/big"
	"slices"
	"strconv"
	"strings"
	"testing"

	"liquidcheck/api"
	"liquidcheck/num"
)

const (
	top  = api.MaxInt
	most = api.MaxDigits
)

// number returns the number with the given digits, valid or not.
func number(neg bool, digits ...int) api.Big {
	return api.Big{Neg: neg, Digits: digits}
}

// alike returns n digits d.
func alike(d, n int) []int {
	return slices.Repeat([]int{d}, n)
}

func same(a, b api.Big) bool {
	return a.Neg == b.Neg && slices.Equal(a.Digits, b.Digits)
}

// show writes a number with its digits as they are, valid or not.
func show(a api.Big) string {
	s := fmt.Sprintf("%v%v", a.Neg, a.Digits)
	if len(s) > 80 {
		s = fmt.Sprintf("%s.. (%d digits)", s[:80], len(a.Digits))
	}
	return s
}

// value returns what an argument counts as, by a rule of its own about what is valid.
func value(a api.Big) *exact.Int {
	k := len(a.Digits)
	if k == 0 || k > most || a.Digits[k-1] == 0 {
		return new(exact.Int)
	}
	text := []byte("+")
	if a.Neg {
		text[0] = '-'
	}
	for i := k - 1; i >= 0; i-- {
		d := a.Digits[i]
		if d < 0 || d > 9999 {
			return new(exact.Int)
		}
		text = append(text, byte('0'+d/1000), byte('0'+d/100%10), byte('0'+d/10%10), byte('0'+d%10))
	}
	n, _ := new(exact.Int).SetString(string(text), 10)
	return n
}

// made returns the only form of n, even if it has too many digits.
func made(n *exact.Int) api.Big {
	text := strings.TrimPrefix(n.String(), "-")
	a := number(n.Sign() < 0)
	if n.Sign() == 0 {
		return a
	}
	for end := len(text); end > 0; end -= 4 {
		d, _ := strconv.Atoi(text[max(end-4, 0):end])
		a.Digits = append(a.Digits, d)
	}
	return a
}

// fits reports whether n has at most MaxDigits digits.
func fits(n *exact.Int) bool {
	return len(made(n).Digits) <= most
}

// mixed returns n digits that depend on the seed alone, with many of them extreme.
func mixed(n int, seed uint32) []int {
	l := make([]int, n)
	for i := range l {
		seed = seed*1664525 + 1013904223
		switch seed >> 29 {
		case 0, 1:
			l[i] = 0
		case 2:
			l[i] = 9999
		case 3:
			l[i] = 1
		case 4:
			l[i] = 5000
		default:
			l[i] = int(seed>>8) % 10000
		}
	}
	if n > 0 && l[n-1] == 0 {
		l[n-1] = 1 + int(seed>>8)%9999
	}
	return l
}

// bad returns arguments that are not valid.
func bad() []api.Big {
	return []api.Big{
		number(true),
		number(true, []int{}...),
		number(false, 0), number(true, 0), number(false, 5, 0), number(true, 5, 0), number(false, 0, 0, 0),
		number(false, 10000), number(true, 10000), number(false, -1), number(true, -1), number(false, 10000, 1), number(false, 1, 10000), number(false, -1, 1), number(false, 1, -1), number(true, 3, -7, 5), number(false, 3, 10000, 5),
		number(false, math.MaxInt), number(false, math.MinInt), number(false, math.MinInt, math.MaxInt, 1), number(true, math.MaxInt, 1),
		number(false, alike(0, most+1)...), number(false, alike(1, most+1)...), number(true, alike(9999, most+1)...), number(false, alike(1, 5000)...),
		number(false, append(alike(0, most-1), 10000)...), number(false, append([]int{10000}, alike(1, most-1)...)...), number(false, append(alike(7, most-1), 0)...),
	}
}

// good returns valid numbers of all kinds and sizes: what the chapter names and what lies next to it.
func good() []api.Big {
	var l []api.Big
	for _, n := range []int{
		1, 2, 3, 7, 12, 18, 9998, 9999, 10000, 10001, 99999999, 100000000, 99980001,
		top - 1, top, top + 1, 9999999999999999, 10000000000000000, math.MaxInt,
	} {
		l = append(l, made(exact.NewInt(int64(n))))
	}
	for _, n := range []int{3, 4, 5, most / 2, most/2 + 1, most - 1, most} {
		l = append(l, number(false, alike(9999, n)...), number(false, append(alike(0, n-1), 1)...), number(false, mixed(n, uint32(n))...))
	}
	for _, n := range []int{3, 4, 5} {
		l = append(l, number(false, alike(1, n)...), number(false, append([]int{1}, append(alike(0, n-2), 1)...)...), number(false, append(alike(9999, n-1), 1)...))
	}
	for _, a := range slices.Clone(l) {
		l = append(l, number(true, slices.Clone(a.Digits)...))
	}
	return append(l, number(false), number(false, []int{}...), made(exact.NewInt(math.MinInt)))
}

// eachPair calls f with all pairs of these numbers, valid or not.
func eachPair(f func(a, b api.Big)) {
	l := append(good(), bad()...)
	for _, a := range l {
		for _, b := range l {
			f(a, b)
		}
	}
}

// operation is one of the functions of two numbers that can have no result.
type operation func(a, b api.Big) (api.Big, bool)

// checkExact compares an operation with the one of math/big, for all pairs of numbers.
func checkExact(t *testing.T, name string, f operation, g func(a, b *exact.Int) *exact.Int) {
	t.Helper()
	results, overflows := 0, 0
	eachPair(func(a, b api.Big) {
		n := g(value(a), value(b))
		want, ok := made(n), fits(n)
		if ok {
			results++
		} else {
			want = api.Big{}
			overflows++
		}
		if c, is := f(a, b); !same(c, want) || is != ok {
			t.Errorf("%s of %s and %s is %s, %v; want %s, %v", name, show(a), show(b), show(c), is, show(want), ok)
		}
	})
	if results < 5000 || overflows < 10 {
		t.Errorf("just %d results and %d overflows of %s were compared", results, overflows, name)
	}
}

// P2.1

func TestOfMakesTheOnlyFormOfEveryInt(t *testing.T) {
	for _, c := range []struct {
		n    int
		want api.Big
	}{
		{0, number(false)}, {1, number(false, 1)}, {-1, number(true, 1)}, {9999, number(false, 9999)}, {-9999, number(true, 9999)},
		{10000, number(false, 0, 1)}, {-10000, number(true, 0, 1)}, {10001, number(false, 1, 1)}, {-10001, number(true, 1, 1)}, {99999999, number(false, 9999, 9999)}, {100000000, number(false, 0, 0, 1)},
		{12345678, number(false, 5678, 1234)}, {top, number(false, 0, 0, 0, 1)}, {-top, number(true, 0, 0, 0, 1)}, {top + 1, number(false, 1, 0, 0, 1)},
		{math.MaxInt, number(false, 5807, 5477, 368, 3372, 922)}, {math.MinInt + 1, number(true, 5807, 5477, 368, 3372, 922)}, {math.MinInt, number(true, 5808, 5477, 368, 3372, 922)},
	} {
		if a := Of(c.n); !same(a, c.want) {
			t.Errorf("Of(%d) = %s", c.n, show(a))
		}
	}
	for n := -20100; n <= 20100; n++ {
		if a := Of(n); !same(a, made(exact.NewInt(int64(n)))) {
			t.Errorf("Of(%d) = %s", n, show(a))
		}
	}
}

func TestValidTakesJustTheOnlyFormOfANumber(t *testing.T) {
	for _, a := range good() {
		if !Valid(a) {
			t.Errorf("%s is not valid", show(a))
		}
	}
	for _, a := range bad() {
		if Valid(a) {
			t.Errorf("%s is valid", show(a))
		}
	}
	for place := range 5 {
		for _, d := range []int{-10000, -1, 10000, 10001, 20000, 99999} {
			l := alike(1, 5)
			l[place] = d
			if Valid(number(false, l...)) || Valid(number(true, l...)) {
				t.Errorf("%v is valid", l)
			}
		}
	}
}

func TestIntTakesJustTheNumbersInBounds(t *testing.T) {
	for _, n := range []int{0, 1, -1, 9999, -9999, 10000, -10001, 99999999, 999999999999, top - 1, top, -top + 1, -top} {
		if m, ok := Int(Of(n)); m != n || !ok {
			t.Errorf("Int of %d is %d, %v", n, m, ok)
		}
	}
	for _, a := range append(good(), bad()...) {
		n, ok := 0, false
		if v := value(a); v.IsInt64() && num.In(int(v.Int64())) {
			n, ok = int(v.Int64()), true
		}
		if m, is := Int(a); m != n || is != ok {
			t.Errorf("Int of %s is %d, %v; want %d, %v", show(a), m, is, n, ok)
		}
	}
	for _, a := range []api.Big{
		Of(top + 1), Of(-top - 1), Of(2 * top), Of(math.MaxInt), Of(math.MinInt), number(false, 0, 0, 0, 2), number(true, 9999, 9999, 9999, 9999), number(false, 0, 0, 0, 0, 1), number(false, append(alike(0, most-1), 1)...),
		made(new(exact.Int).Lsh(exact.NewInt(1), 64)), made(new(exact.Int).Lsh(exact.NewInt(5), 64)),
	} {
		if n, ok := Int(a); n != 0 || ok {
			t.Errorf("Int of %s is %d, %v", show(a), n, ok)
		}
	}
	for _, a := range bad() {
		if n, ok := Int(a); n != 0 || !ok {
			t.Errorf("Int of %s is %d, %v, though it counts as 0", show(a), n, ok)
		}
	}
}

func TestCmpOrdersNumbers(t *testing.T) {
	eachPair(func(a, b api.Big) {
		if n, want := Cmp(a, b), value(a).Cmp(value(b)); n != want {
			t.Errorf("Cmp of %s and %s is %d", show(a), show(b), n)
		}
	})
	for _, c := range []struct {
		a, b api.Big
		n    int
	}{
		{Of(3), Of(5), -1}, {Of(5), Of(3), 1}, {Of(-3), Of(-5), 1}, {Of(-5), Of(-3), -1}, {Of(-5), Of(3), -1}, {Of(3), Of(-5), 1}, {Of(4), Of(4), 0}, {Of(-4), Of(-4), 0},
		{Of(0), Of(0), 0}, {Of(0), Of(1), -1}, {Of(0), Of(-1), 1}, {Of(10000), Of(9999), 1}, {Of(-10000), Of(-9999), -1}, {Of(20001), Of(10002), 1},
		{number(true), number(false), 0}, {number(false, 10000), Of(0), 0}, {number(false, 10000), Of(1), -1}, {Of(-1), number(false, 7, 0), -1},
	} {
		if n := Cmp(c.a, c.b); n != c.n {
			t.Errorf("Cmp of %s and %s is %d", show(c.a), show(c.b), n)
		}
	}
}

func TestAddIsExactWithAllCarriesAndBorrows(t *testing.T) {
	checkExact(t, "Add", Add, func(a, b *exact.Int) *exact.Int { return a.Add(a, b) })
	one := Of(1)
	for n := 1; n < most; n++ {
		full, next := number(false, alike(9999, n)...), number(false, append(alike(0, n), 1)...)
		if a, ok := Add(full, one); !same(a, next) || !ok {
			t.Errorf("a carry through %d digits gives %s, %v", n, show(a), ok)
		}
		if a, ok := Add(next, Of(-1)); !same(a, full) || !ok {
			t.Errorf("a borrow through %d digits gives %s, %v", n, show(a), ok)
		}
		if a, ok := Add(Neg(full), Of(-1)); !same(a, Neg(next)) || !ok {
			t.Errorf("a carry through %d digits below 0 gives %s, %v", n, show(a), ok)
		}
	}
}

func TestSubIsExactWithAllCarriesAndBorrows(t *testing.T) {
	checkExact(t, "Sub", Sub, func(a, b *exact.Int) *exact.Int { return a.Sub(a, b) })
	for n := 1; n < most; n++ {
		full, next := number(false, alike(9999, n)...), number(false, append(alike(0, n), 1)...)
		if a, ok := Sub(next, full); !same(a, Of(1)) || !ok {
			t.Errorf("a borrow through %d digits gives %s, %v", n, show(a), ok)
		}
		if a, ok := Sub(full, next); !same(a, Of(-1)) || !ok {
			t.Errorf("a borrow through %d digits below 0 gives %s, %v", n, show(a), ok)
		}
	}
}

func TestMulIsExact(t *testing.T) {
	checkExact(t, "Mul", Mul, func(a, b *exact.Int) *exact.Int { return a.Mul(a, b) })
	if a, ok := Mul(Of(9999), Of(9999)); !same(a, number(false, 1, 9998)) || !ok {
		t.Errorf("the square of 9999 is %s, %v", show(a), ok)
	}
}

func TestResultsHaveAtMostMaxDigitsDigits(t *testing.T) {
	full, unit := number(false, alike(9999, most)...), number(false, append(alike(0, most-1), 1)...)
	half := number(false, append(alike(0, most/2-1), 1)...)
	for _, c := range []struct {
		name string
		f    operation
		a, b api.Big
		ok   bool
	}{
		{"Add", Add, full, Of(0), true}, {"Add", Add, Of(0), full, true}, {"Add", Add, full, Of(1), false}, {"Add", Add, Of(1), full, false}, {"Add", Add, full, Of(-1), true}, {"Add", Add, full, full, false}, {"Add", Add, full, Neg(full), true},
		{"Add", Add, Neg(full), Of(-1), false}, {"Add", Add, Neg(full), Of(1), true}, {"Add", Add, Neg(full), Neg(full), false}, {"Add", Add, unit, unit, true},
		{"Sub", Sub, full, Of(-1), false}, {"Sub", Sub, full, Of(1), true}, {"Sub", Sub, Of(-1), full, false}, {"Sub", Sub, Neg(full), Of(1), false}, {"Sub", Sub, full, full, true}, {"Sub", Sub, Neg(full), full, false}, {"Sub", Sub, Of(0), full, true},
		{"Mul", Mul, full, Of(1), true}, {"Mul", Mul, full, Of(-1), true}, {"Mul", Mul, full, Of(2), false}, {"Mul", Mul, Of(2), full, false}, {"Mul", Mul, full, full, false}, {"Mul", Mul, full, Of(0), true}, {"Mul", Mul, unit, Of(9999), true}, {"Mul", Mul, unit, Of(10000), false}, {"Mul", Mul, Of(-10000), unit, false},
		{"Mul", Mul, half, half, true}, {"Mul", Mul, half, number(false, append(alike(0, most/2), 9999)...), true}, {"Mul", Mul, half, number(true, append(alike(0, most/2+1), 1)...), false},
		{"Mul", Mul, number(false, alike(9999, most/2)...), number(false, alike(9999, most/2)...), true},
	} {
		n, ok := c.f(c.a, c.b)
		if ok != c.ok || !ok && !same(n, api.Big{}) || len(n.Digits) > most {
			t.Errorf("%s of %s and %s is %s, %v", c.name, show(c.a), show(c.b), show(n), ok)
		}
	}
	if n, ok := Mul(unit, Of(9999)); len(n.Digits) != most || !ok {
		t.Errorf("a product of exactly MaxDigits digits is %s, %v", show(n), ok)
	}
	if n, ok := Add(unit, full); n.Digits != nil || ok {
		t.Errorf("a sum of one digit more is %s, %v", show(n), ok)
	}
}

func TestNegTurnsTheSign(t *testing.T) {
	for _, c := range [][2]int{{0, 0}, {1, -1}, {-1, 1}, {10000, -10000}, {-99999999, 99999999}, {math.MaxInt, math.MinInt + 1}, {math.MinInt + 1, math.MaxInt}} {
		if a := Neg(Of(c[0])); !same(a, Of(c[1])) {
			t.Errorf("Neg of %d is %s", c[0], show(a))
		}
	}
	for _, a := range append(good(), bad()...) {
		if b := Neg(a); !same(b, made(new(exact.Int).Neg(value(a)))) {
			t.Errorf("Neg of %s is %s", show(a), show(b))
		}
	}
}

// P2.2

// checkDivision compares a quotient and a rest with those of math/big.
func checkDivision(t *testing.T, a, b api.Big) {
	t.Helper()
	q, r, ok := Div(a, b)
	m, n := value(a), value(b)
	if n.Sign() == 0 {
		if ok || !same(q, api.Big{}) || !same(r, api.Big{}) {
			t.Errorf("Div of %s and %s is %s and %s, %v", show(a), show(b), show(q), show(r), ok)
		}
		return
	}
	quotient, rest := new(exact.Int), new(exact.Int)
	// The quotient of math/big is rounded down for a positive divisor.
	if n.Sign() > 0 {
		quotient.DivMod(m, n, rest)
	} else {
		quotient.DivMod(m.Neg(m), n.Neg(n), rest)
		rest.Neg(rest)
	}
	if !ok || !same(q, made(quotient)) || !same(r, made(rest)) {
		t.Errorf("Div of %s and %s is %s and %s, %v; want %s and %s", show(a), show(b), show(q), show(r), ok, show(made(quotient)), show(made(rest)))
	}
}

func TestDivRoundsDownWithEveryCombinationOfSigns(t *testing.T) {
	for _, c := range [][4]int{
		{7, 2, 3, 1}, {-7, 2, -4, 1}, {7, -2, -4, -1}, {-7, -2, 3, -1}, {6, 2, 3, 0}, {-6, 2, -3, 0}, {6, -2, -3, 0}, {-6, -2, 3, 0},
		{0, 5, 0, 0}, {0, -5, 0, 0}, {1, 5, 0, 1}, {-1, 5, -1, 4}, {1, -5, -1, -4}, {-1, -5, 0, -1}, {5, 5, 1, 0}, {-5, 5, -1, 0},
		{100000000, 9999, 10001, 1}, {-100000000, 9999, -10002, 9998}, {100000000, -9999, -10002, -9998}, {99999999, 10000, 9999, 9999}, {-99999999, 10000, -10000, 1}, {-99999999, 10001, -9999, 0}, {100000000, 10001, 9999, 1},
		{3, 10003, 0, 3}, {-3, 10003, -1, 10000}, {3, -10003, -1, -10000}, {-3, -10003, 0, -3}, {9999, 9999, 1, 0}, {10000, 1, 10000, 0}, {10000, -1, -10000, 0}, {math.MinInt, 1, math.MinInt, 0}, {math.MinInt, math.MinInt, 1, 0}, {math.MaxInt, math.MinInt, -1, -1},
	} {
		q, r, ok := Div(Of(c[0]), Of(c[1]))
		if !same(q, Of(c[2])) || !same(r, Of(c[3])) || !ok {
			t.Errorf("Div of %d and %d is %s and %s, %v", c[0], c[1], show(q), show(r), ok)
		}
	}
	for a := -60; a <= 60; a++ {
		for b := -15; b <= 15; b++ {
			checkDivision(t, Of(a), Of(b))
		}
	}
}

func TestDivIsExactForAllSizes(t *testing.T) {
	eachPair(func(a, b api.Big) { checkDivision(t, a, b) })
	for n := range 5000 {
		seed := uint32(n)
		a, b := number(n%2 == 0, mixed(n%23, seed)...), number(n%3 == 0, mixed(1+n%11, seed+7)...)
		if Valid(a) {
			checkDivision(t, a, b)
		}
	}
}

// The quotient's digits are estimated from leading digits: these are the numbers where that is hardest.
func TestDivIsExactNextToMultiplesOfTheDivisor(t *testing.T) {
	for _, size := range []int{1, 2, 3, 4, 5, 9} {
		for _, b := range []api.Big{
			number(false, alike(9999, size)...), number(false, alike(1, size)...), number(false, append(alike(9999, size-1), 1)...), number(false, append(alike(0, size-1), 1)...), number(false, append(alike(0, size-1), 9999)...), number(false, append(alike(9999, size-1), 5000)...), number(false, mixed(size, uint32(size))...),
			number(false, append(append(alike(9999, max(size-3, 0)), alike(0, min(size, 3)-1)...), 1)...),
		} {
			for _, q := range []api.Big{Of(1), Of(2), Of(5), Of(9998), Of(9999), Of(10000), Of(99999999), Of(100000001), number(false, 9999, 0, 9999, 0, 1), number(false, alike(9999, 6)...), number(false, append(alike(0, 6), 1)...)} {
				multiple, ok := Mul(b, q)
				if !ok {
					t.Fatalf("no multiple of %s", show(b))
				}
				for _, d := range []int{-2, -1, 0, 1, 2} {
					a, _ := Add(multiple, Of(d))
					for _, dividend := range []api.Big{a, Neg(a)} {
						checkDivision(t, dividend, b)
						checkDivision(t, dividend, Neg(b))
					}
				}
			}
		}
	}
}

func TestDivByZeroHasNoResult(t *testing.T) {
	for _, a := range append(good(), bad()...) {
		for _, b := range append(bad(), Of(0), number(false, []int{}...)) {
			if q, r, ok := Div(a, b); ok || !same(q, api.Big{}) || !same(r, api.Big{}) {
				t.Errorf("Div of %s and %s is %s and %s, %v", show(a), show(b), show(q), show(r), ok)
			}
		}
	}
}

func TestDivTakesAnInvalidDividendAsZero(t *testing.T) {
	for _, a := range bad() {
		if q, r, ok := Div(a, Of(-7)); !ok || !same(q, api.Big{}) || !same(r, api.Big{}) {
			t.Errorf("Div of %s and -7 is %s and %s, %v", show(a), show(q), show(r), ok)
		}
	}
}

func TestGcdIsTheGreatestCommonDivisor(t *testing.T) {
	for _, c := range [][3]int{
		{12, 18, 6}, {-12, 18, 6}, {12, -18, 6}, {-12, -18, 6}, {18, 12, 6}, {7, 9, 1}, {1, 1, 1}, {-1, 5, 1}, {21, 7, 7}, {7, 21, 7}, {10007, 10009, 1}, {100000000, 30000, 10000},
		{0, 0, 0}, {5, 0, 5}, {0, 5, 5}, {-5, 0, 5}, {0, -5, 5}, {top, 0, top}, {0, -top, top}, {top, top + 1, 1}, {math.MaxInt, math.MaxInt, math.MaxInt}, {math.MaxInt, 49, 49}, {math.MinInt, 3000, 8}, {math.MinInt + 1, 0, math.MaxInt},
	} {
		if a := Gcd(Of(c[0]), Of(c[1])); !same(a, Of(c[2])) {
			t.Errorf("Gcd of %d and %d is %s", c[0], c[1], show(a))
		}
	}
	eachPair(func(a, b api.Big) {
		want := made(new(exact.Int).GCD(nil, nil, new(exact.Int).Abs(value(a)), new(exact.Int).Abs(value(b))))
		if c := Gcd(a, b); !same(c, want) {
			t.Errorf("Gcd of %s and %s is %s; want %s", show(a), show(b), show(c), show(want))
		}
	})
}

func TestGcdFindsACommonFactorOfMultiples(t *testing.T) {
	for n := range 200 {
		factor := number(false, mixed(1+n%30, uint32(n))...)
		a, b := multiple(t, factor, number(n%2 == 0, mixed(1+n%7, uint32(n+1))...)), multiple(t, factor, number(n%3 == 0, mixed(1+n%9, uint32(n+2))...))
		c := Gcd(a, b)
		if _, r, ok := Div(c, factor); !ok || !same(r, api.Big{}) || c.Neg {
			t.Errorf("Gcd of %s and %s is %s, and no multiple of %s", show(a), show(b), show(c), show(factor))
		}
	}
}

// multiple returns a product that must exist.
func multiple(t *testing.T, a, b api.Big) api.Big {
	t.Helper()
	c, ok := Mul(a, b)
	if !ok {
		t.Fatalf("no product of %s and %s", show(a), show(b))
	}
	return c
}

// P2.3

func TestTextIsDecimalNotation(t *testing.T) {
	for _, c := range []struct {
		a api.Big
		s string
	}{
		{number(false), "0"}, {number(false, 1), "1"}, {number(true, 1), "-1"}, {number(false, 9999), "9999"}, {number(false, 0, 1), "10000"}, {number(true, 1, 1), "-10001"}, {number(false, 7, 20, 300, 4000), "4000030000200007"}, {number(true, 0, 0, 12), "-1200000000"}, {number(false, 0, 50), "500000"},
		{number(false, 0, 0, 0, 1), "1000000000000"}, {number(true, 5808, 5477, 368, 3372, 922), "-9223372036854775808"},
		{number(false, alike(9999, most)...), strings.Repeat("9", 4*most)}, {number(true, append(alike(0, most-1), 1)...), "-1" + strings.Repeat("0", 4*most-4)},
	} {
		if s := Text(c.a); s != c.s {
			t.Errorf("Text of %s is %q", show(c.a), s)
		}
	}
	for _, a := range append(good(), bad()...) {
		if s := Text(a); s != value(a).String() {
			t.Errorf("Text of %s is %q", show(a), s)
		}
	}
}

func TestParseReadsTexts(t *testing.T) {
	for _, a := range good() {
		if b, ok := Parse(Text(a)); !same(a, b) || !ok {
			t.Errorf("Parse(%q) = %s, %v", Text(a), show(b), ok)
		}
	}
	for _, s := range []string{"0", "1", "-1", "9", "10", "-10", "9999", "10000", "-10000", "99999", "100000", "12345678", "123456789", "1000000000001", "-9223372036854775808", "9223372036854775808", "18446744073709551616", strings.Repeat("123", 200), "-" + strings.Repeat("123", 200)} {
		n, _ := new(exact.Int).SetString(s, 10)
		if a, ok := Parse(s); !same(a, made(n)) || !ok || Text(a) != s {
			t.Errorf("Parse(%q) = %s, %v", s, show(a), ok)
		}
	}
}

func TestParseRejectsAllOtherTexts(t *testing.T) {
	for _, s := range []string{
		"", "-", "+", "--", "-+", "00", "-0", "+0", "-00", "0000", "00000", "-0000", "007", "-07", "01", "-01", "00001", "00010000", "-00010000", "+5", "--5", "-+5", "+-5", "5-", "5+", "1-2", "10000-", "1-0000", "10000-0000",
		" 5", "5 ", "- 5", "5\n", "\t5", "5\x00", "\x00", "1 ", "x", "1 000", "1,000", "1_000", "1.0", "1e3", "0x10", "0b1", "0o7", "a", "5a", "a5", "/", ":", "1/", "1:", "/1", ":1", "10000/", "1/0000", "1:0000", "\x80", "\xff5", "é", "٣", "５", "−5",
		strings.Repeat("0", 4*most), strings.Repeat("0", 4*most) + "1", "0" + strings.Repeat("9", 4*most-1), "-0" + strings.Repeat("9", 4*most-1), strings.Repeat("-", 100), strings.Repeat(" ", 4*most), strings.Repeat("0", 100000), strings.Repeat("x", 100000),
	} {
		if a, ok := Parse(s); !same(a, api.Big{}) || ok {
			t.Errorf("Parse(%.40q) = %s, %v", s, show(a), ok)
		}
	}
}

func TestParseReadsAtMostMaxDigitsDigits(t *testing.T) {
	for _, sign := range []string{"", "-"} {
		for _, s := range []string{strings.Repeat("9", 4*most), "1" + strings.Repeat("0", 4*most-1), "1" + strings.Repeat("0", 4*most-4), strings.Repeat("9", 4*most-3), strings.Repeat("9", 4*most-4)} {
			n, _ := new(exact.Int).SetString(sign+s, 10)
			if a, ok := Parse(sign + s); !same(a, made(n)) || !ok {
				t.Errorf("Parse of a text of %d digits is %s, %v", len(s), show(a), ok)
			}
		}
		for _, s := range []string{"1" + strings.Repeat("0", 4*most), strings.Repeat("9", 4*most+1), strings.Repeat("1", 4*most+4), strings.Repeat("9", 100000)} {
			if a, ok := Parse(sign + s); !same(a, api.Big{}) || ok {
				t.Errorf("Parse of a text of %d digits is %s, %v", len(s), show(a), ok)
			}
		}
	}
}

func TestParseReadsShortTextsJustIfTheyAreTexts(t *testing.T) {
	texts := map[string]int{}
	for n := -99; n <= 999; n++ {
		texts[fmt.Sprint(n)] = n
	}
	check := func(s string) {
		n, ok := texts[s]
		if a, is := Parse(s); !same(a, made(exact.NewInt(int64(n)))) || is != ok {
			t.Errorf("Parse(%q) = %s, %v", s, show(a), is)
		}
	}
	for a := range 256 {
		check(string([]byte{byte(a)}))
		for b := range 256 {
			check(string([]byte{byte(a), byte(b)}))
		}
	}
	for _, a := range "0123456789+- /:" {
		for _, b := range "0123456789+- /:" {
			for _, c := range "0123456789+- /:" {
				check(string([]rune{a, b, c}))
			}
		}
	}
}

// P2.4

func TestAddAndMulTakeTheirArgumentsInAnyOrder(t *testing.T) {
	eachPair(func(a, b api.Big) {
		for _, f := range []operation{Add, Mul} {
			c, ok := f(a, b)
			if d, is := f(b, a); !same(c, d) || ok != is {
				t.Errorf("the order of %s and %s matters", show(a), show(b))
			}
		}
	})
}

func TestMulDistributesOverAdd(t *testing.T) {
	distributed := 0
	l := append(good(), bad()...)
	for i, c := range l {
		// A few factors for each pair are enough, as long as all of them take part.
		for j, a := range l {
			b := l[(7*i+3*j)%len(l)]
			sum, added := Add(a, b)
			left, first := Mul(a, c)
			right, second := Mul(b, c)
			product, third := Mul(sum, c)
			both, fourth := Add(left, right)
			if !added || !first || !second || !third || !fourth {
				continue
			}
			distributed++
			if !same(product, both) {
				t.Errorf("(%s + %s) * %s is %s, or %s", show(a), show(b), show(c), show(product), show(both))
			}
		}
	}
	if distributed < 5000 {
		t.Errorf("just %d products of sums exist", distributed)
	}
}

func TestSubUndoesAdd(t *testing.T) {
	undone := 0
	eachPair(func(a, b api.Big) {
		sum, ok := Add(a, b)
		if !ok {
			return
		}
		undone++
		if back, ok := Sub(sum, b); !same(back, made(value(a))) || !ok {
			t.Errorf("%s + %s - %s is %s, %v", show(a), show(b), show(b), show(back), ok)
		}
	})
	if undone < 5000 {
		t.Errorf("just %d sums exist", undone)
	}
}

func TestCmpIsTheSignOfTheDifference(t *testing.T) {
	eachPair(func(a, b api.Big) {
		d, ok := Sub(a, b)
		if !ok {
			return
		}
		sign := 0
		switch {
		case d.Neg:
			sign = -1
		case len(d.Digits) > 0:
			sign = 1
		}
		if n := Cmp(a, b); n != sign {
			t.Errorf("Cmp of %s and %s is %d, their difference %s", show(a), show(b), n, show(d))
		}
	})
}

func TestDivisionIsUndone(t *testing.T) {
	eachPair(func(a, b api.Big) {
		q, r, ok := Div(a, b)
		if !ok {
			return
		}
		product, first := Mul(b, q)
		sum, second := Add(product, r)
		// Rounding down can make the product too great, though not the sum.
		if first && (!same(sum, made(value(a))) || !second) {
			t.Errorf("%s is not %s * %s + %s", show(a), show(b), show(q), show(r))
		}
		if r.Neg != (b.Neg && len(r.Digits) > 0) || Cmp(absolute(r), absolute(b)) >= 0 {
			t.Errorf("the rest of %s and %s is %s", show(a), show(b), show(r))
		}
	})
}

func absolute(a api.Big) api.Big {
	return number(false, a.Digits...)
}

// P2.5

func TestAllNumbersThatAreReturnedAreValid(t *testing.T) {
	check := func(name string, results ...api.Big) {
		for _, a := range results {
			if v := value(a); !Valid(a) || !same(a, made(v)) {
				t.Errorf("%s returns %s", name, show(a))
			}
		}
	}
	eachPair(func(a, b api.Big) {
		sum, _ := Add(a, b)
		difference, _ := Sub(a, b)
		product, _ := Mul(a, b)
		q, r, _ := Div(a, b)
		check("Add", sum)
		check("Sub", difference)
		check("Mul", product)
		check("Div", q, r)
		check("Gcd", Gcd(a, b))
	})
	for _, a := range append(good(), bad()...) {
		b, _ := Parse(Text(a))
		check("Parse", b)
		check("Neg", Neg(a))
	}
	for _, n := range []int{0, 1, -1, 9999, 10000, -10000, math.MaxInt, math.MinInt} {
		check("Of", Of(n))
	}
	for _, s := range []string{"", "-0", "00", "0", "10000", "-5", "x", strings.Repeat("9", 4*most+1)} {
		a, _ := Parse(s)
		check("Parse", a)
	}
}

// Arguments and results

// guarded returns a copy of a in front of room that belongs to somebody else.
func guarded(a api.Big) (api.Big, []int) {
	whole := append(slices.Clone(a.Digits), alike(-77, 5)...)
	return number(a.Neg, whole[:len(a.Digits)]...), whole
}

// calls returns what each function returns for two arguments.
func calls(a, b api.Big) []api.Big {
	sum, _ := Add(a, b)
	difference, _ := Sub(a, b)
	product, _ := Mul(a, b)
	q, r, _ := Div(a, b)
	parsed, _ := Parse(Text(a))
	Valid(a)
	Int(a)
	Cmp(a, b)
	return []api.Big{sum, difference, product, q, r, Gcd(a, b), Neg(a), Neg(b), parsed}
}

// fewer returns a number of each kind, for tests that are quadratic in the results.
func fewer() []api.Big {
	return []api.Big{Of(0), number(false, []int{}...), Of(1), Of(-1), Of(10000), Of(-99999999), Of(math.MinInt), number(false, alike(9999, 8)...), number(true, mixed(30, 5)...), number(false, append(alike(0, 40), 1)...), number(true, alike(9999, most)...), number(false, mixed(most, 3)...), number(true), number(false, 7, 0), number(false, 10000, -1), number(false, alike(1, most+1)...)}
}

func TestNoFunctionChangesAnArgument(t *testing.T) {
	l := fewer()
	for _, a := range l {
		for _, b := range l {
			first, whole := guarded(a)
			second, other := guarded(b)
			calls(first, second)
			calls(first, first)
			if !slices.Equal(whole, append(slices.Clone(a.Digits), alike(-77, 5)...)) || !slices.Equal(other, append(slices.Clone(b.Digits), alike(-77, 5)...)) {
				t.Errorf("%s or %s was changed", show(a), show(b))
			}
		}
	}
}

// scribble changes all the digits of a number, and what a caller can reach behind them.
func scribble(a api.Big) {
	for i := range a.Digits[:cap(a.Digits)] {
		a.Digits[:cap(a.Digits)][i] = -99
	}
	_ = append(a.Digits, -98)
}

func TestNoResultSharesMemoryWithAnArgumentOrAnotherResult(t *testing.T) {
	l := fewer()
	for _, a := range l {
		for _, b := range l {
			first, whole := guarded(a)
			second, other := guarded(b)
			want := calls(first, second)
			for i := range want {
				results := calls(first, second)
				scribble(results[i])
				for j, c := range results {
					if j != i && !same(c, want[j]) {
						t.Errorf("changing result %d of %s and %s changes result %d", i, show(a), show(b), j)
					}
				}
			}
			if !slices.Equal(whole, append(slices.Clone(a.Digits), alike(-77, 5)...)) || !slices.Equal(other, append(slices.Clone(b.Digits), alike(-77, 5)...)) {
				t.Errorf("changing a result changes %s or %s", show(a), show(b))
			}
		}
	}
}

func TestAnArgumentThatIsChangedLaterChangesNoResult(t *testing.T) {
	l := fewer()
	for _, a := range l {
		for _, b := range l {
			want := calls(a, b)
			first, _ := guarded(a)
			second, _ := guarded(b)
			results := calls(first, second)
			scribble(first)
			scribble(second)
			for i, c := range results {
				if !same(c, want[i]) {
					t.Errorf("changing %s or %s changes result %d", show(a), show(b), i)
				}
			}
		}
	}
}

func TestResultsLeaveNoRoomBehindThem(t *testing.T) {
	for _, a := range good() {
		for _, c := range append(calls(a, Of(-7)), calls(Of(3), a)...) {
			if cap(c.Digits) != len(c.Digits) {
				t.Errorf("a result of %s has room for %d digits more", show(a), cap(c.Digits)-len(c.Digits))
			}
		}
	}
}

func TestSizeOfTheWorstGcdIsHandled(t *testing.T) {
	// Neighbours in this sequence take the most steps of all numbers of their size.
	a, b := Of(1), Of(1)
	for {
		c, ok := Add(a, b)
		if !ok {
			break
		}
		a, b = b, c
	}
	if c := Gcd(a, b); !same(c, Of(1)) {
		t.Errorf("Gcd is %s", show(c))
	}
}
