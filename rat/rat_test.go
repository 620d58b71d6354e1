package rat

import (
	"fmt"
	"math"
	exact "math/big"
	"slices"
	"strconv"
	"strings"
	"testing"

	"liquidcheck/api"
	"liquidcheck/big"
)

const most = api.MaxDigits

// number returns the number with the given digits, valid or not.
func number(neg bool, digits ...int) api.Big {
	return api.Big{Neg: neg, Digits: digits}
}

// alike returns n digits d.
func alike(d, n int) []int {
	return slices.Repeat([]int{d}, n)
}

// f returns n/d as it is written, a fraction or not.
func f(n, d int) api.Rat {
	return api.Rat{N: big.Of(n), D: big.Of(d)}
}

// numeral returns the number that a text denotes.
func numeral(s string) api.Big {
	n, ok := new(exact.Int).SetString(s, 10)
	if !ok {
		panic(s)
	}
	return made(n)
}

// over returns n/d as it is written, for numbers in decimal.
func over(n, d string) api.Rat {
	return api.Rat{N: numeral(n), D: numeral(d)}
}

// power returns the text of 10000 to the power n, which has n+1 digits.
func power(n int) string {
	return "1" + strings.Repeat("0", 4*n)
}

// nines returns the text of the greatest number of n digits.
func nines(n int) string {
	return strings.Repeat("9", 4*n)
}

// copyOf returns a fraction that shares no memory with a.
func copyOf(a api.Rat) api.Rat {
	return api.Rat{N: number(a.N.Neg, slices.Clone(a.N.Digits)...), D: number(a.D.Neg, slices.Clone(a.D.Digits)...)}
}

func sameBig(a, b api.Big) bool {
	return a.Neg == b.Neg && slices.Equal(a.Digits, b.Digits)
}

func sameRat(a, b api.Rat) bool {
	return sameBig(a.N, b.N) && sameBig(a.D, b.D)
}

// show writes a fraction with its digits as they are, valid or not.
func show(a api.Rat) string {
	part := func(a api.Big) string {
		s := fmt.Sprintf("%v%v", a.Neg, a.Digits)
		if len(s) > 60 {
			s = fmt.Sprintf("%s.. (%d digits)", s[:60], len(a.Digits))
		}
		return s
	}
	return part(a.N) + "/" + part(a.D)
}

// made returns the only form of n, even if it has too many digits.
func made(n *exact.Int) api.Big {
	text := strings.TrimPrefix(n.String(), "-")
	a := number(n.Sign() < 0)
	if n.Sign() == 0 {
		return a
	}
	for end := len(text); end > 0; end -= 4 {
		d, _ := strconv.Atoi(text[max(end-4, 0):end])
		a.Digits = append(a.Digits, d)
	}
	return a
}

// madeRat returns the only form of a, even if it has too many digits.
func madeRat(a *exact.Rat) api.Rat {
	return api.Rat{N: made(a.Num()), D: made(a.Denom())}
}

// fits reports whether both parts of a have at most MaxDigits digits.
func fits(a *exact.Rat) bool {
	c := madeRat(a)
	return len(c.N.Digits) <= most && len(c.D.Digits) <= most
}

// whole returns the number that a is, by a rule of its own about what is valid.
func whole(a api.Big) (*exact.Int, bool) {
	k := len(a.Digits)
	if k > most || k > 0 && a.Digits[k-1] == 0 || k == 0 && a.Neg {
		return new(exact.Int), false
	}
	n := new(exact.Int)
	for _, d := range slices.Backward(a.Digits) {
		if d < 0 || d > 9999 {
			return new(exact.Int), false
		}
		n.Add(n.Mul(n, exact.NewInt(10000)), exact.NewInt(int64(d)))
	}
	if a.Neg {
		n.Neg(n)
	}
	return n, true
}

// value returns what an argument counts as, and whether it is a fraction, by a rule of its own.
func value(a api.Rat) (*exact.Rat, bool) {
	n, first := whole(a.N)
	d, second := whole(a.D)
	if !first || !second || d.Sign() <= 0 {
		return new(exact.Rat), false
	}
	// The library brings the fraction into lowest terms, which changes the parts if they are not.
	c := new(exact.Rat).SetFrac(n, d)
	if c.Num().Cmp(n) != 0 || c.Denom().Cmp(d) != 0 {
		return new(exact.Rat), false
	}
	return c, true
}

// fibonacci returns fractions of neighbours in this sequence, with the largest parts of n digits: they differ by very little, and take the most steps.
func fibonacci(n int) []api.Rat {
	a, b := exact.NewInt(1), exact.NewInt(1)
	for {
		c := new(exact.Int).Add(a, b)
		if len(made(c).Digits) > n {
			break
		}
		a, b = b, c
	}
	before := new(exact.Int).Sub(b, a)
	return []api.Rat{{N: made(b), D: made(a)}, {N: made(a), D: made(before)}, {N: made(before), D: made(a)}, {N: made(a), D: made(b)}}
}

// large returns fractions with large parts, which together come to the limit in all ways. Parts that take many steps are not among the longest.
func large() []api.Rat {
	return append([]api.Rat{
		over(nines(most), "1"), over("-"+nines(most), "1"), over(power(most-1), "1"), over("-"+power(most-1), "7"), over(nines(most), "2"), over(nines(most), power(most-1)), over("-"+power(most-1), nines(most)),
		over("1", nines(most)), over("-1", nines(most)), over("1", power(most-1)), over("2", nines(most)), over(power(most/2), nines(most/2)), over("-"+nines(most/2), power(most/2)), over(power(most/2), "3"), over("-3", power(most/2)), over("1", nines(most/2)),
		over(nines(5), power(5)), over("-"+power(5), nines(5)), over("123456789012345678901", "98765432109876543210987"),
	}, fibonacci(30)...)
}

// small returns fractions with small parts.
func small() []api.Rat {
	l := []api.Rat{f(0, 1), {N: number(false, []int{}...), D: number(false, 1)}}
	for _, c := range [][2]int{
		{1, 1}, {2, 1}, {7, 1}, {1, 2}, {1, 3}, {2, 3}, {3, 2}, {5, 3}, {1, 4}, {3, 4}, {5, 4}, {1, 6}, {5, 6}, {7, 6}, {5, 12}, {22, 7}, {355, 113}, {113, 355},
		{9999, 1}, {10000, 1}, {1, 9999}, {1, 10000}, {9999, 10000}, {10000, 9999}, {10001, 10000}, {99999999, 100000000}, {100000001, 100000000}, {123456789, 987654322},
		{api.MaxInt, 1}, {1, api.MaxInt}, {api.MaxInt + 1, api.MaxInt}, {api.MaxInt, api.MaxInt - 1}, {math.MaxInt, 1}, {1, math.MaxInt}, {math.MaxInt, math.MaxInt - 1}, {math.MaxInt - 1, math.MaxInt},
	} {
		l = append(l, f(c[0], c[1]), f(-c[0], c[1]))
	}
	return append(l, f(math.MinInt, 1), f(math.MinInt, 3))
}

// bad returns arguments that are no fractions.
func bad() []api.Rat {
	l := []api.Rat{
		{}, f(1, 0), f(0, 0), f(-1, 0), f(1, -1), f(1, -2), f(-1, -2), f(0, -1), f(2, 4), f(-2, 4), f(2, 2), f(4, 2), f(-9, 3), f(10, 15), f(0, 2), f(0, 10000), f(10000, 10000), f(30000, 70000), f(math.MinInt, 2),
		over(nines(most), nines(most)), over(nines(most), "3"), over("3", nines(most)), over(power(most-1), "10"), over("-"+power(most/2), power(most/2+1)),
	}
	for _, a := range []api.Big{
		number(true), number(false, 0), number(true, 0), number(false, 5, 0), number(false, 10000), number(false, -1), number(true, -1, 1), number(false, 1, 10000), number(false, 3, -7, 5), number(false, math.MinInt), number(false, math.MaxInt),
		number(false, alike(0, most+1)...), number(false, alike(1, most+1)...), number(true, alike(9999, most+1)...), number(false, append(alike(7, most-1), 0)...), number(false, alike(1, 3000)...),
	} {
		l = append(l, api.Rat{N: a, D: big.Of(1)}, api.Rat{N: a, D: big.Of(7)}, api.Rat{N: big.Of(1), D: a}, api.Rat{N: big.Of(0), D: a}, api.Rat{N: a, D: a})
	}
	return l
}

// eachPair calls g with the pairs of small fractions, of large ones, of each with some others, and of each with one that is none.
func eachPair(g func(a, b api.Rat)) {
	pairs := func(l, m []api.Rat) {
		for _, a := range l {
			for _, b := range m {
				g(a, b)
			}
		}
	}
	s, l, x := small(), large(), bad()
	some := append(s[:12:12], l[:4]...)
	pairs(s, s)
	pairs(l, l)
	pairs(s[:12], l)
	pairs(l, s[:12])
	pairs(some, x)
	pairs(x, some)
	pairs(x[:20], x[:20])
}

// operation is one of the functions of two fractions that can have no result.
type operation func(a, b api.Rat) (api.Rat, bool)

// check compares the result of an operation with the exact one; nil means that there is none.
func check(t *testing.T, name string, g operation, a, b api.Rat, want *exact.Rat) bool {
	t.Helper()
	var result api.Rat
	ok := want != nil && fits(want)
	if ok {
		result = madeRat(want)
	}
	if c, is := g(a, b); !sameRat(c, result) || is != ok {
		t.Errorf("%s(%s, %s) = %s, %v; want %s, %v", name, show(a), show(b), show(c), is, show(result), ok)
	}
	return ok
}

// checkAll compares an operation with an exact one for all pairs, and for all small parts.
func checkAll(t *testing.T, name string, g operation, h func(a, b *exact.Rat) *exact.Rat) {
	t.Helper()
	results, failures := 0, 0
	count := func(a, b api.Rat) {
		v, _ := value(a)
		w, _ := value(b)
		if check(t, name, g, a, b, h(v, w)) {
			results++
		} else {
			failures++
		}
	}
	eachPair(count)
	eachSmall(func(a api.Rat) {
		eachSmall(func(b api.Rat) { count(a, b) })
	})
	if results < 10000 || failures < 50 {
		t.Errorf("just %d results and %d failures of %s were compared", results, failures, name)
	}
}

// eachSmall calls g with all n/d for little n and d, among them ones that are not in lowest terms.
func eachSmall(g func(a api.Rat)) {
	for n := -8; n <= 8; n++ {
		for d := 1; d <= 9; d++ {
			g(f(n, d))
		}
	}
}

func add(a, b *exact.Rat) *exact.Rat { return new(exact.Rat).Add(a, b) }
func sub(a, b *exact.Rat) *exact.Rat { return new(exact.Rat).Sub(a, b) }
func mul(a, b *exact.Rat) *exact.Rat { return new(exact.Rat).Mul(a, b) }

func div(a, b *exact.Rat) *exact.Rat {
	if b.Sign() == 0 {
		return nil
	}
	return new(exact.Rat).Quo(a, b)
}

// P3.1

func TestOfReducesToLowestTermsWithAPositiveDenominator(t *testing.T) {
	for _, c := range [][4]int{
		{6, -4, -3, 2}, {6, 4, 3, 2}, {-6, 4, -3, 2}, {-6, -4, 3, 2}, {0, -7, 0, 1}, {0, 7, 0, 1}, {0, 1, 0, 1}, {0, 10000, 0, 1}, {1, 1, 1, 1}, {1, -1, -1, 1}, {-1, -1, 1, 1}, {7, 7, 1, 1}, {-14, 7, -2, 1}, {14, -7, -2, 1}, {-10, -5, 2, 1}, {7, 21, 1, 3}, {1, -3, -1, 3}, {3, 5, 3, 5},
		{10000, 100000000, 1, 10000}, {30000, 70000, 3, 7}, {9999, 3333, 3, 1}, {math.MinInt, math.MinInt, 1, 1}, {math.MinInt, 2, math.MinInt / 2, 1}, {math.MaxInt, 49, math.MaxInt / 49, 1}, {math.MaxInt, 98, math.MaxInt / 49, 2}, {1, math.MaxInt, 1, math.MaxInt}, {-2, math.MinInt, 1, 1 << 62},
	} {
		if a, ok := Of(big.Of(c[0]), big.Of(c[1])); !sameRat(a, f(c[2], c[3])) || !ok {
			t.Errorf("Of(%d, %d) = %s, %v", c[0], c[1], show(a), ok)
		}
	}
	for n := -30; n <= 30; n++ {
		for d := -30; d <= 30; d++ {
			if d == 0 {
				continue
			}
			want := madeRat(exact.NewRat(int64(n), int64(d)))
			if a, ok := Of(big.Of(n), big.Of(d)); !sameRat(a, want) || !ok {
				t.Errorf("Of(%d, %d) = %s, %v", n, d, show(a), ok)
			}
		}
	}
}

func TestOfTakesPartsOfAnySize(t *testing.T) {
	var l []api.Big
	for _, a := range large() {
		l = append(l, a.N, a.D)
	}
	for _, s := range []string{"30", "-30", "10000", nines(most - 1), "-" + nines(most-1), "2" + strings.Repeat("0", 4*most-1), "-2" + strings.Repeat("0", 4*most-1)} {
		l = append(l, numeral(s))
	}
	for _, n := range l {
		for _, d := range l {
			v, _ := whole(n)
			w, _ := whole(d)
			want := madeRat(new(exact.Rat).SetFrac(v, w))
			if a, ok := Of(n, d); !sameRat(a, want) || !ok {
				t.Errorf("Of of the parts of %s is %s, %v", show(api.Rat{N: n, D: d}), show(a), ok)
			}
		}
	}
}

func TestOfHasNoResultForZeroBelowOrPartsThatAreNotValid(t *testing.T) {
	none := func(n, d api.Big) {
		if a, ok := Of(n, d); !sameRat(a, api.Rat{}) || ok {
			t.Errorf("Of of the parts of %s is %s, %v", show(api.Rat{N: n, D: d}), show(a), ok)
		}
	}
	for _, n := range []int{0, 1, -1, 7, 10000, math.MaxInt, math.MinInt} {
		none(big.Of(n), big.Of(0))
		none(big.Of(n), number(false, []int{}...))
	}
	invalid := 0
	for _, a := range bad() {
		_, first := whole(a.N)
		_, second := whole(a.D)
		if !first || !second {
			invalid++
			none(a.N, a.D)
		}
	}
	if invalid < 50 {
		t.Errorf("just %d invalid parts", invalid)
	}
}

func TestIntTakesEveryInt(t *testing.T) {
	check := func(n int) {
		if a := Int(n); !sameRat(a, api.Rat{N: made(exact.NewInt(int64(n))), D: number(false, 1)}) {
			t.Errorf("Int(%d) = %s", n, show(a))
		}
	}
	for n := -20001; n <= 20001; n++ {
		check(n)
	}
	for _, n := range []int{api.MaxInt, -api.MaxInt, api.MaxInt + 1, 99999999, -100000000, math.MaxInt, math.MaxInt - 1, math.MinInt, math.MinInt + 1} {
		check(n)
	}
}

func TestValidTakesJustFractions(t *testing.T) {
	for _, a := range append(small(), large()...) {
		if !Valid(a) {
			t.Errorf("%s is not valid", show(a))
		}
	}
	for _, a := range bad() {
		if Valid(a) {
			t.Errorf("%s is valid", show(a))
		}
	}
	for n := -40; n <= 40; n++ {
		for d := -40; d <= 40; d++ {
			a := f(n, d)
			if _, ok := value(a); Valid(a) != ok {
				t.Errorf("Valid of %d/%d is %v", n, d, !ok)
			}
		}
	}
}

// P3.2

func TestOperationsOfOrdinaryFractions(t *testing.T) {
	for _, c := range []struct {
		a, b                             api.Rat
		sum, difference, product, result api.Rat
	}{
		{f(1, 6), f(1, 3), f(1, 2), f(-1, 6), f(1, 18), f(1, 2)},
		{f(1, 2), f(-1, 4), f(1, 4), f(3, 4), f(-1, 8), f(-2, 1)},
		{f(5, 3), f(5, 3), f(10, 3), f(0, 1), f(25, 9), f(1, 1)},
		{f(-5, 3), f(5, 3), f(0, 1), f(-10, 3), f(-25, 9), f(-1, 1)},
		{f(0, 1), f(-2, 3), f(-2, 3), f(2, 3), f(0, 1), f(0, 1)},
		{f(7, 2), f(3, 1), f(13, 2), f(1, 2), f(21, 2), f(7, 6)},
		{f(2, 4), f(1, 1), f(1, 1), f(-1, 1), f(0, 1), f(0, 1)},
		{f(-3, 4), f(-5, 6), f(-19, 12), f(1, 12), f(5, 8), f(9, 10)},
	} {
		for _, r := range []struct {
			name string
			g    operation
			want api.Rat
		}{{"Add", Add, c.sum}, {"Sub", Sub, c.difference}, {"Mul", Mul, c.product}, {"Div", Div, c.result}} {
			if d, ok := r.g(c.a, c.b); !sameRat(d, r.want) || !ok {
				t.Errorf("%s(%s, %s) = %s, %v", r.name, show(c.a), show(c.b), show(d), ok)
			}
		}
	}
}

func TestAddIsExact(t *testing.T) { checkAll(t, "Add", Add, add) }
func TestSubIsExact(t *testing.T) { checkAll(t, "Sub", Sub, sub) }
func TestMulIsExact(t *testing.T) { checkAll(t, "Mul", Mul, mul) }
func TestDivIsExact(t *testing.T) { checkAll(t, "Div", Div, div) }

func TestOperationsOfTheLargestNeighboursAreExact(t *testing.T) {
	l := fibonacci(most)
	for _, a := range l {
		for _, b := range l {
			v, _ := value(a)
			w, _ := value(b)
			check(t, "Add", Add, a, b, add(v, w))
			check(t, "Sub", Sub, a, b, sub(v, w))
			check(t, "Mul", Mul, a, b, mul(v, w))
			check(t, "Div", Div, a, b, div(v, w))
		}
	}
}

func TestDivByZeroHasNoResult(t *testing.T) {
	for _, a := range append(small(), bad()...) {
		for _, b := range append(bad(), f(0, 1), api.Rat{N: number(false, []int{}...), D: big.Of(1)}) {
			if c, ok := Div(a, b); !sameRat(c, api.Rat{}) || ok {
				t.Errorf("Div(%s, %s) = %s, %v", show(a), show(b), show(c), ok)
			}
		}
	}
}

func TestResultsFitUpToMaxDigitsDigits(t *testing.T) {
	top, least, beyond := nines(most), power(most-1), power(most/2)
	for i, c := range []struct {
		g    operation
		a, b api.Rat
		ok   bool
	}{
		{Add, over(top, "1"), f(0, 1), true}, {Add, over(top, "1"), f(1, 1), false}, {Add, over(top, "1"), f(-1, 1), true}, {Add, over(least, "1"), over(least, "1"), true},
		{Add, over("-"+top, "1"), f(-1, 1), false}, {Add, over("-"+least, "1"), f(-1, 1), true}, {Sub, over("-"+top, "1"), f(1, 1), false}, {Sub, over("-"+top, "1"), f(-1, 1), true}, {Sub, f(-1, 1), over(top, "1"), false}, {Sub, f(1, 1), over(top, "1"), true},
		{Add, over(top, "2"), f(1, 2), true}, {Add, over(top, "2"), f(1, 1), false}, {Add, over(top, "2"), f(-1, 1), true}, {Add, over(top, "2"), f(-1, 2), true}, {Add, over(top, "1"), f(1, 2), false}, {Sub, over(top, "1"), f(1, 2), false}, {Sub, over(top, "2"), over(top, "1"), true}, {Sub, over(top, "2"), over("-"+top, "1"), false},
		{Mul, over(beyond, "1"), over(nines(most/2), "1"), true}, {Mul, over(beyond, "1"), over(beyond, "1"), false}, {Mul, over("-"+beyond, "1"), over(beyond, "1"), false}, {Mul, over("1", beyond), over("1", nines(most/2)), true}, {Mul, over("1", beyond), over("1", beyond), false},
		{Div, over(beyond, "1"), over("1", nines(most/2)), true}, {Div, over(beyond, "1"), over("1", beyond), false}, {Div, over("1", beyond), over(nines(most/2), "1"), true}, {Div, over("1", beyond), over(beyond, "1"), false}, {Div, over("1", beyond), over("-"+beyond, "1"), false},
		{Add, over("1", beyond), over("1", nines(most/2)), true}, {Add, over("1", beyond), over("1", power(most/2)+"1"), false}, {Add, over("1", least), over("1", least), true}, {Sub, over("1", least), over("1", top), false}, {Add, over("1", top), f(1, 1), false}, {Sub, over("1", top), f(1, 1), true}, {Add, over("-1", top), f(1, 1), true},
	} {
		_, first := value(c.a)
		_, second := value(c.b)
		d, ok := c.g(c.a, c.b)
		if !first || !second || ok != c.ok || !ok && !sameRat(d, api.Rat{}) {
			t.Errorf("case %d, %s and %s: %s, %v", i, show(c.a), show(c.b), show(d), ok)
		}
	}
}

// What is added here leads to products of up to 400 digits, though the result fits.
func TestResultsFitWhateverIsComputedOnTheWay(t *testing.T) {
	top, least, neighbours := over(nines(most), "1"), over(power(most-1), "1"), fibonacci(most)
	half, third := over(nines(most), "2"), over(power(most-1), "3")
	tiny, near := over("1", nines(most)), over(nines(most), power(most-1))
	for _, a := range []api.Rat{top, least, half, third, tiny, near, neighbours[0], neighbours[1], over("-"+nines(most), "7"), over(power(most-1), nines(most))} {
		v, ok := value(a)
		if !ok {
			t.Fatalf("%s is no fraction", show(a))
		}
		for _, r := range []struct {
			name string
			g    operation
			want *exact.Rat
		}{{"Sub", Sub, new(exact.Rat)}, {"Div", Div, exact.NewRat(1, 1)}} {
			if !check(t, r.name, r.g, a, a, r.want) {
				t.Errorf("%s of equal fractions does not fit", r.name)
			}
		}
		inverse, ok := Div(Int(1), a)
		if !ok || !check(t, "Mul", Mul, a, inverse, exact.NewRat(1, 1)) || !check(t, "Mul", Mul, inverse, a, exact.NewRat(1, 1)) || !check(t, "Div", Div, Int(1), inverse, v) {
			t.Errorf("the product of %s and its inverse does not fit", show(a))
		}
	}
	// The sum of fractions with a common denominator of 200 digits is one with that of 1 digit.
	a, b := over("1"+strings.Repeat("0", 4*most-2)+"3", nines(most)), over("8"+strings.Repeat("9", 4*most-2)+"6", nines(most))
	if c, ok := Add(a, b); !sameRat(c, f(1, 1)) || !ok {
		t.Errorf("the sum of %s and %s is %s, %v", show(a), show(b), show(c), ok)
	}
}

// shrinking returns n/(g x), and m/(g y) for that m at which the sum of both has only the denominator x y.
func shrinking(n, g, x, y *exact.Int) (api.Rat, api.Rat) {
	m := new(exact.Int).ModInverse(x, g)
	m.Mul(m, n).Mul(m, y).Neg(m).Mod(m, g)
	// Multiples of g can be added, until this is in lowest terms.
	d := new(exact.Int).Mul(g, y)
	for new(exact.Int).GCD(nil, nil, m, d).Cmp(exact.NewInt(1)) != 0 {
		m.Add(m, g)
	}
	return madeRat(new(exact.Rat).SetFrac(n, new(exact.Int).Mul(g, x))), api.Rat{N: made(m), D: made(d)}
}

func TestSumsFitThoughTheCommonDenominatorDoesNot(t *testing.T) {
	two, one := exact.NewInt(2), exact.NewInt(1)
	shrunk := 0
	for _, k := range []uint{10, 500, 1200, 1300, 1320} {
		// Powers of 2, and odd neighbours, have nothing in common.
		g := new(exact.Int).Add(new(exact.Int).Exp(two, exact.NewInt(int64(k)), nil), one)
		for _, j := range []uint{1, 7, 60, 600, 1300} {
			x := new(exact.Int).Exp(two, exact.NewInt(int64(j)), nil)
			for _, i := range []uint{0, 3, 50, 700, 1250} {
				y := new(exact.Int).Exp(exact.NewInt(5), exact.NewInt(int64(i*10/24)), nil)
				if new(exact.Int).GCD(nil, nil, g, y).Cmp(one) != 0 {
					continue
				}
				a, b := shrinking(one, g, x, y)
				v, first := value(a)
				w, second := value(b)
				if !first || !second {
					continue
				}
				sum, common := add(v, w), new(exact.Int).Mul(new(exact.Int).Mul(g, x), y)
				if fits(sum) && len(made(common).Digits) > most {
					shrunk++
				}
				check(t, "Add", Add, a, b, sum)
				check(t, "Add", Add, b, a, sum)
				check(t, "Sub", Sub, a, b, sub(v, w))
			}
		}
	}
	if shrunk < 10 {
		t.Errorf("just %d sums fit whose common denominator does not", shrunk)
	}
}

func TestOperationsTakeWhatIsNoFractionAsZero(t *testing.T) {
	for _, a := range bad() {
		for _, b := range []api.Rat{f(-3, 2), f(7, 1), f(0, 1), f(5, 10000)} {
			c, _ := value(b)
			zero := new(exact.Rat)
			check(t, "Add", Add, a, b, add(zero, c))
			check(t, "Add", Add, b, a, c)
			check(t, "Sub", Sub, a, b, sub(zero, c))
			check(t, "Sub", Sub, b, a, c)
			check(t, "Mul", Mul, a, b, zero)
			check(t, "Mul", Mul, b, a, zero)
			check(t, "Div", Div, a, b, div(zero, c))
			check(t, "Div", Div, b, a, nil)
		}
	}
}

// P3.3

func TestCmpComparesFractions(t *testing.T) {
	for _, c := range []struct {
		a, b api.Rat
		n    int
	}{
		{f(-1, 2), f(1, 3), -1}, {f(1, 2), f(1, 3), 1}, {f(1, 3), f(1, 2), -1}, {f(-1, 2), f(-1, 3), -1}, {f(-1, 3), f(-1, 2), 1}, {f(1, 2), f(1, 2), 0}, {f(-1, 2), f(-1, 2), 0}, {f(1, 2), f(-1, 2), 1}, {f(-1, 2), f(1, 2), -1},
		{f(0, 1), f(0, 1), 0}, {f(0, 1), f(1, 9999), -1}, {f(0, 1), f(-1, 9999), 1}, {f(-1, 9999), f(0, 1), -1}, {f(3, 2), f(1, 1), 1}, {f(3, 2), f(2, 1), -1}, {f(-3, 2), f(-2, 1), 1}, {f(-3, 2), f(-1, 1), -1}, {f(2, 1), f(2, 1), 0}, {f(7, 3), f(5, 2), -1}, {f(355, 113), f(22, 7), -1}, {f(22, 7), f(355, 113), 1},
		{f(9999, 10000), f(10000, 9999), -1}, {f(9999, 10000), f(9998, 9999), 1}, {f(1, 10000), f(1, 9999), -1}, {f(-9999, 10000), f(-9998, 9999), -1}, {f(math.MaxInt, 2), f(math.MaxInt-1, 2), 1}, {f(math.MinInt, 1), f(math.MinInt+1, 1), -1},
	} {
		if n := Cmp(c.a, c.b); n != c.n {
			t.Errorf("Cmp(%s, %s) = %d", show(c.a), show(c.b), n)
		}
	}
}

func TestCmpIsExact(t *testing.T) {
	check := func(a, b api.Rat) {
		v, _ := value(a)
		w, _ := value(b)
		if n := Cmp(a, b); n != v.Cmp(w) {
			t.Errorf("Cmp(%s, %s) = %d", show(a), show(b), n)
		}
	}
	eachPair(check)
	eachSmall(func(a api.Rat) {
		eachSmall(func(b api.Rat) { check(a, b) })
	})
}

func TestCmpTellsFractionsThatDifferByVeryLittle(t *testing.T) {
	l, top := fibonacci(most), nines(most)
	less := strings.Repeat("9", 4*most-1) + "8"
	for _, c := range []struct {
		a, b api.Rat
		n    int
	}{
		{over("1", top), over("1", less), -1}, {over("-1", top), over("-1", less), 1}, {over(less, top), over(strings.Repeat("9", 4*most-1)+"7", less), 1}, {over(top, "1"), over(less, "1"), 1}, {over(top, "2"), over(top, "4"), 1},
		{l[0], l[0], 0}, {copyOf(l[0]), l[0], 0}, {l[3], copyOf(l[3]), 0},
	} {
		if n := Cmp(c.a, c.b); n != c.n {
			t.Errorf("Cmp(%s, %s) = %d", show(c.a), show(c.b), n)
		}
	}
	// The difference of neighbours is an inverse of 400 digits.
	v, _ := value(l[0])
	w, _ := value(l[1])
	if n := Cmp(l[0], l[1]); n != v.Cmp(w) || n == 0 || n != -Cmp(l[1], l[0]) || Cmp(l[2], l[3]) != n {
		t.Errorf("Cmp of neighbours is %d", n)
	}
}

func TestCmpTakesWhatIsNoFractionAsZero(t *testing.T) {
	for _, a := range bad() {
		for _, c := range []struct {
			b api.Rat
			n int
		}{{f(1, 10000), -1}, {f(0, 1), 0}, {f(-1, 10000), 1}, {f(2, 4), 0}} {
			if n, m := Cmp(a, c.b), Cmp(c.b, a); n != c.n || m != -c.n {
				t.Errorf("Cmp(%s, %s) = %d, and %d", show(a), show(c.b), n, m)
			}
		}
	}
}

// P3.4

func TestFloorAndCeilRoundToIntegers(t *testing.T) {
	for _, c := range []struct {
		a           api.Rat
		floor, ceil int
	}{
		{f(-3, 2), -2, -1}, {f(3, 2), 1, 2}, {f(0, 1), 0, 0}, {f(1, 3), 0, 1}, {f(-1, 3), -1, 0}, {f(4, 1), 4, 4}, {f(-4, 1), -4, -4}, {f(1, 1), 1, 1}, {f(-1, 1), -1, -1}, {f(7, 3), 2, 3}, {f(-7, 3), -3, -2}, {f(-9999, 10000), -1, 0}, {f(-10001, 10000), -2, -1}, {f(10001, 10000), 1, 2}, {f(-10000, 1), -10000, -10000}, {f(-99999999, 2), -50000000, -49999999},
		{f(math.MaxInt, 1), math.MaxInt, math.MaxInt}, {f(math.MinInt, 1), math.MinInt, math.MinInt}, {f(math.MaxInt, 2), math.MaxInt / 2, math.MaxInt/2 + 1}, {f(1, math.MaxInt), 0, 1}, {f(-1, math.MaxInt), -1, 0},
		{f(2, 4), 0, 0}, {f(-3, -2), 0, 0}, {f(-7, 0), 0, 0},
	} {
		if floor, ceil := Floor(c.a), Ceil(c.a); !sameBig(floor, big.Of(c.floor)) || !sameBig(ceil, big.Of(c.ceil)) {
			t.Errorf("Floor and Ceil of %s are %v and %v", show(c.a), floor, ceil)
		}
	}
}

func TestFloorAndCeilAreExact(t *testing.T) {
	check := func(a api.Rat) {
		v, _ := value(a)
		// Euclid's quotient is rounded down for a positive divisor.
		floor := new(exact.Int).Div(v.Num(), v.Denom())
		ceil := new(exact.Int).Neg(new(exact.Int).Div(new(exact.Int).Neg(v.Num()), v.Denom()))
		if b, c := Floor(a), Ceil(a); !sameBig(b, made(floor)) || !sameBig(c, made(ceil)) {
			t.Errorf("Floor and Ceil of %s are %v and %v", show(a), b, c)
		}
	}
	for _, a := range slices.Concat(small(), large(), bad()) {
		check(a)
	}
	for n := -50; n <= 50; n++ {
		for d := -2; d <= 12; d++ {
			check(f(n, d))
		}
	}
}

// P3.5

func TestTextWritesTheDenominatorUnlessItIsOne(t *testing.T) {
	for _, c := range []struct {
		a api.Rat
		s string
	}{
		{f(-3, 2), "-3/2"}, {f(3, 2), "3/2"}, {f(0, 1), "0"}, {f(1, 1), "1"}, {f(-1, 1), "-1"}, {f(-2, 1), "-2"}, {f(1, 10000), "1/10000"}, {f(10000, 1), "10000"}, {f(-10001, 10000), "-10001/10000"}, {f(5, 10001), "5/10001"}, {f(math.MinInt, 1), "-9223372036854775808"}, {f(math.MinInt, 3), "-9223372036854775808/3"},
		{over(nines(most), power(most-1)), nines(most) + "/" + power(most-1)}, {over(nines(most), "1"), nines(most)}, {over("-1", nines(most)), "-1/" + nines(most)},
		{api.Rat{}, "0"}, {f(2, 4), "0"}, {f(4, 2), "0"}, {f(1, -2), "0"}, {f(0, 5), "0"}, {f(7, 0), "0"},
	} {
		if s := Text(c.a); s != c.s {
			t.Errorf("Text of %s is %.80q", show(c.a), s)
		}
	}
	for _, a := range slices.Concat(small(), large(), bad()) {
		v, _ := value(a)
		if s := Text(a); s != v.RatString() {
			t.Errorf("Text of %s is %.80q", show(a), s)
		}
	}
}

// P3.6

func TestAddAndMulTakeTheirArgumentsInAnyOrder(t *testing.T) {
	eachPair(func(a, b api.Rat) {
		for _, g := range []operation{Add, Mul} {
			c, ok := g(a, b)
			if d, is := g(b, a); !sameRat(c, d) || ok != is {
				t.Errorf("the order of %s and %s matters", show(a), show(b))
			}
		}
	})
}

func TestSubUndoesAddAndDivUndoesMul(t *testing.T) {
	undone := 0
	eachPair(func(a, b api.Rat) {
		v, _ := value(a)
		w, _ := value(b)
		if sum, ok := Add(a, b); ok {
			undone++
			check(t, "Sub", Sub, sum, b, v)
		}
		if product, ok := Mul(a, b); ok && w.Sign() != 0 {
			undone++
			check(t, "Div", Div, product, b, v)
		}
	})
	if undone < 10000 {
		t.Errorf("just %d results on the way fit", undone)
	}
}

func TestMulDistributesOverAdd(t *testing.T) {
	distributed := 0
	l := slices.Concat(small(), large(), bad())
	for i, c := range l {
		// A few factors for each pair are enough, as long as all of them take part.
		for j, a := range l[i%3:] {
			b := l[(7*i+3*j)%len(l)]
			sum, added := Add(a, b)
			left, first := Mul(a, c)
			right, second := Mul(b, c)
			if !added || !first || !second {
				continue
			}
			product, third := Mul(sum, c)
			both, fourth := Add(left, right)
			distributed++
			if !sameRat(product, both) || third != fourth {
				t.Errorf("(%s + %s) * %s is %s, or %s", show(a), show(b), show(c), show(product), show(both))
			}
		}
	}
	if distributed < 5000 {
		t.Errorf("just %d products of sums fit", distributed)
	}
}

// P3.7

func TestCmpIsATotalOrder(t *testing.T) {
	l := slices.Concat(small(), large()[:20], bad()[:20])
	slices.SortFunc(l, Cmp)
	for i, a := range l {
		for j, b := range l {
			n := Cmp(a, b)
			if n != -Cmp(b, a) || i < j && n > 0 || i == j && n != 0 {
				t.Errorf("Cmp(%s, %s) = %d, at %d and %d in order", show(a), show(b), n, i, j)
			}
		}
	}
}

func TestCmpIsZeroJustForEqualFractions(t *testing.T) {
	equal := 0
	l := append(small(), large()...)
	for _, a := range l {
		for _, b := range l {
			b = copyOf(b)
			if n := Cmp(a, b); (n == 0) != sameRat(a, b) {
				t.Errorf("Cmp(%s, %s) = %d", show(a), show(b), n)
			}
			if sameRat(a, b) {
				equal++
			}
		}
	}
	// 0 is there in two ways: without digits, and with an empty list of them.
	if equal != len(l)+2 {
		t.Errorf("%d of %d are equal", equal, len(l))
	}
}

func TestAddingTheSameKeepsTheOrder(t *testing.T) {
	kept := 0
	others := append(small()[:6], large()[:6]...)
	eachPair(func(a, b api.Rat) {
		n := Cmp(a, b)
		c := others[kept%len(others)]
		left, first := Add(a, c)
		right, second := Add(b, c)
		if !first || !second {
			c = f(-7, 12)
			left, first = Add(a, c)
			right, second = Add(b, c)
		}
		if !first || !second {
			return
		}
		kept++
		if m := Cmp(left, right); m != n {
			t.Errorf("Cmp(%s, %s) is %d, and %d with %s added", show(a), show(b), n, m, show(c))
		}
	})
	if kept < 5000 {
		t.Errorf("just %d sums fit", kept)
	}
}

// P3.8

func TestFloorIsAtMostAndLessThanOneAway(t *testing.T) {
	for _, a := range slices.Concat(small(), large(), bad()) {
		floor, ceil := Floor(a), Ceil(a)
		below, ok := Of(floor, big.Of(1))
		next, fit := Add(below, Int(1))
		if !ok || Cmp(below, a) > 0 || fit && Cmp(a, next) >= 0 {
			t.Errorf("Floor of %s is %v", show(a), floor)
		}
		minus, ok := Sub(Int(0), a)
		if !ok || !sameBig(ceil, big.Neg(Floor(minus))) {
			t.Errorf("Ceil of %s is %v", show(a), ceil)
		}
		above, ok := Of(ceil, big.Of(1))
		if !ok || Cmp(above, a) < 0 {
			t.Errorf("Ceil of %s is %v", show(a), ceil)
		}
	}
}

// Arguments and results

// guarded returns a copy of a in front of room that belongs to somebody else.
func guarded(a api.Big) (api.Big, []int) {
	room := append(slices.Clone(a.Digits), alike(-77, 5)...)
	return number(a.Neg, room[:len(a.Digits)]...), room
}

// guardedRat returns such a copy of a fraction, and a function that reports whether it is as it was.
func guardedRat(a api.Rat) (api.Rat, func() bool) {
	n, above := guarded(a.N)
	d, below := guarded(a.D)
	before, after := slices.Clone(above), slices.Clone(below)
	return api.Rat{N: n, D: d}, func() bool { return slices.Equal(above, before) && slices.Equal(below, after) }
}

// calls returns all numbers that the functions return for two arguments.
func calls(a, b api.Rat) []api.Big {
	var l []api.Big
	for _, g := range []operation{Add, Sub, Mul, Div} {
		c, _ := g(a, b)
		l = append(l, c.N, c.D)
	}
	c, _ := Of(a.N, b.D)
	d, _ := Of(a.N, a.D)
	Valid(a)
	Cmp(a, b)
	Text(a)
	return append(l, c.N, c.D, d.N, d.D, Floor(a), Ceil(a), Floor(b), Ceil(b), Int(7).N, Int(7).D)
}

// fewer returns a fraction of each kind, for tests that are quadratic in the results.
func fewer() []api.Rat {
	return []api.Rat{f(0, 1), {N: number(false, []int{}...), D: big.Of(1)}, f(1, 1), f(-1, 1), f(7, 1), f(-3, 2), f(1, 10000), f(-99999999, 10000), over(nines(8), power(7)), over(nines(most), "1"), over("-"+power(most-1), "7"), over("1", power(most/2)), {}, f(2, 4), f(1, -2), f(1, 0), {N: number(false, 7, 0), D: big.Of(1)}, {N: big.Of(7), D: number(true)}}
}

func TestNoFunctionChangesAnArgument(t *testing.T) {
	l := fewer()
	for _, a := range l {
		for _, b := range l {
			first, kept := guardedRat(a)
			second, held := guardedRat(b)
			calls(first, second)
			calls(first, first)
			if !kept() || !held() {
				t.Errorf("%s or %s was changed", show(a), show(b))
			}
		}
	}
}

// scribble changes all the digits of a number, and what a caller can reach behind them.
func scribble(a api.Big) {
	for i := range a.Digits[:cap(a.Digits)] {
		a.Digits[:cap(a.Digits)][i] = -99
	}
	_ = append(a.Digits, -98)
}

func TestNoResultSharesMemoryWithAnArgumentOrAnotherResult(t *testing.T) {
	l := fewer()
	for _, a := range l {
		for _, b := range l {
			first, kept := guardedRat(a)
			second, held := guardedRat(b)
			want := calls(first, second)
			for i := range want {
				results := calls(first, second)
				scribble(results[i])
				for j, c := range results {
					if j != i && !sameBig(c, want[j]) {
						t.Errorf("changing result %d of %s and %s changes result %d", i, show(a), show(b), j)
					}
				}
			}
			if !kept() || !held() {
				t.Errorf("changing a result changes %s or %s", show(a), show(b))
			}
		}
	}
}

func TestAnArgumentThatIsChangedLaterChangesNoResult(t *testing.T) {
	l := fewer()
	for _, a := range l {
		for _, b := range l {
			want := calls(a, b)
			first, _ := guardedRat(a)
			second, _ := guardedRat(b)
			results := calls(first, second)
			for _, c := range []api.Big{first.N, first.D, second.N, second.D} {
				scribble(c)
			}
			for i, c := range results {
				if !sameBig(c, want[i]) {
					t.Errorf("changing %s or %s changes result %d", show(a), show(b), i)
				}
			}
		}
	}
}

func TestAllResultsAreFractions(t *testing.T) {
	eachPair(func(a, b api.Rat) {
		for _, g := range []operation{Add, Sub, Mul, Div} {
			c, ok := g(a, b)
			if _, is := value(c); is != ok {
				t.Errorf("of %s and %s a result is %s, %v", show(a), show(b), show(c), ok)
			}
		}
	})
}
