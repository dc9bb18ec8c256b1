package tests

import (
	"math"
	"math/big"
	"strconv"
	"strings"
	"testing"

	"loop.example/g01004/impl"
)

func TestFractionConstant(t *testing.T) {
	if impl.MaxFraction != 1000000000 {
		t.Error(impl.MaxFraction)
	}
}

func TestIsFraction(t *testing.T) {
	for num := -30; num <= 30; num++ {
		for den := -30; den <= 30; den++ {
			want := den > 0 && ratOf(frac(num, max(den, 1))).Denom().Cmp(big.NewInt(int64(den))) == 0
			if impl.IsFraction(frac(num, den)) != want {
				t.Error(num, den)
			}
		}
	}
	for _, a := range sampleFractions() {
		if !impl.IsFraction(a) {
			t.Error("valid", a)
		}
	}
	for _, a := range invalidFractions() {
		if impl.IsFraction(a) {
			t.Error("invalid", a)
		}
	}
}

func TestFractionOf(t *testing.T) {
	const most = 1000000000000000000
	parts := []int{1, 2, 3, 4, 6, 1000, 999999999, 1000000000, 1000000001, 2000000000, 123456789012, 1 << 59, 387420489, most / 3, most / 2, most - 1, most}
	for _, n := range parts {
		for _, d := range parts {
			for _, pair := range [][2]int{{n, d}, {-n, d}, {n, -d}, {-n, -d}, {0, d}, {0, -d}} {
				a, ok := impl.FractionOf(pair[0], pair[1])
				checkFraction(t, "FractionOf", a, ok, big.NewRat(int64(pair[0]), int64(pair[1])))
			}
		}
	}
	for num := -40; num <= 40; num++ {
		for den := 1; den <= 40; den++ {
			a, ok := impl.FractionOf(num, den)
			checkFraction(t, "FractionOf", a, ok, big.NewRat(int64(num), int64(den)))
			a, ok = impl.FractionOf(num, -den)
			checkFraction(t, "FractionOf", a, ok, big.NewRat(int64(-num), int64(den)))
		}
	}
}

func TestEndsOfFractionOf(t *testing.T) {
	const most = 1000000000000000000
	for _, c := range [][4]int{
		{most, most, 1, 1}, {most, -most, -1, 1}, {-most, most, -1, 1}, {-most, -most, 1, 1}, {0, most, 0, 1}, {0, -most, 0, 1},
		{most, 1000000000, 1000000000, 1}, {1000000000, most, 1, 1000000000}, {-most, 1000000000, -1000000000, 1}, {1000000000, -most, -1, 1000000000},
		{most - 1000000000, most, 999999999, 1000000000}, {most, 1000000000 - most, -1000000000, 999999999},
		{6, -4, -3, 2}, {0, -7, 0, 1},
	} {
		if a, ok := impl.FractionOf(c[0], c[1]); a != frac(c[2], c[3]) || !ok {
			t.Error(c, a, ok)
		}
	}
	for _, c := range [][2]int{
		{1, 0}, {-1, 0}, {0, 0}, {most, 0}, {math.MinInt, 0},
		{most + 1, 1}, {most + 1, most + 1}, {most + 1, most}, {-most - 1, most}, {most, most + 1}, {most, -most - 1}, {0, most + 1}, {0, -most - 1},
		{most + 2, 2}, {2, most + 2}, {2 * most, 2 * most}, {2 * most, 1000000000},
		{math.MaxInt, math.MaxInt}, {math.MinInt, math.MinInt}, {math.MinInt, -1}, {-1, math.MinInt}, {math.MinInt, 1}, {0, math.MinInt}, {1, math.MinInt}, {math.MaxInt, 1},
		{most, 1}, {1, most}, {most, 999999999}, {999999999, most}, {1000000001, 1}, {-1000000001, 1}, {1, 1000000001}, {2000000002, 2}, {2, -2000000002}, {most, most - 1},
	} {
		if a, ok := impl.FractionOf(c[0], c[1]); a != frac(0, 0) || ok {
			t.Error(c, a, ok)
		}
	}
}

func TestFractionsTurnBack(t *testing.T) {
	list := sampleFractions()
	for _, a := range list {
		for _, b := range list {
			x, y := ratOf(a), ratOf(b)
			sum, ok := impl.SumOf(a, b)
			checkFraction(t, "sum", sum, ok, new(big.Rat).Add(x, y))
			if ok {
				back, fine := impl.DifferenceOf(sum, b)
				checkFraction(t, "a + b - b", back, fine, x)
			}
			difference, ok := impl.DifferenceOf(a, b)
			checkFraction(t, "difference", difference, ok, new(big.Rat).Sub(x, y))
			if ok {
				back, fine := impl.SumOf(difference, b)
				checkFraction(t, "a - b + b", back, fine, x)
			}
			product, ok := impl.ProductOf(a, b)
			checkFraction(t, "product", product, ok, new(big.Rat).Mul(x, y))
			if ok && b.Num != 0 {
				back, fine := impl.QuotientOf(product, b)
				checkFraction(t, "a b / b", back, fine, x)
			}
			if b.Num == 0 {
				continue
			}
			quotient, ok := impl.QuotientOf(a, b)
			checkFraction(t, "quotient", quotient, ok, new(big.Rat).Quo(x, y))
			if ok {
				back, fine := impl.ProductOf(quotient, b)
				checkFraction(t, "a / b b", back, fine, x)
			}
		}
	}
}

func TestSmallFractions(t *testing.T) {
	var list []impl.Fraction
	for num := -9; num <= 9; num++ {
		for den := 1; den <= 9; den++ {
			if impl.IsFraction(frac(num, den)) {
				list = append(list, frac(num, den))
			}
		}
	}
	for _, a := range list {
		for _, b := range list {
			x, y := ratOf(a), ratOf(b)
			sum, ok := impl.SumOf(a, b)
			checkFraction(t, "sum", sum, ok, new(big.Rat).Add(x, y))
			difference, ok := impl.DifferenceOf(a, b)
			checkFraction(t, "difference", difference, ok, new(big.Rat).Sub(x, y))
			product, ok := impl.ProductOf(a, b)
			checkFraction(t, "product", product, ok, new(big.Rat).Mul(x, y))
			if b.Num != 0 {
				quotient, ok := impl.QuotientOf(a, b)
				checkFraction(t, "quotient", quotient, ok, new(big.Rat).Quo(x, y))
			}
		}
	}
}

// fractionResult is a call with two fractions and what it returns.
type fractionResult struct {
	call func(a impl.Fraction, b impl.Fraction) (impl.Fraction, bool)
	a, b impl.Fraction
	want impl.Fraction
	ok   bool
}

func TestLimitsOfFractions(t *testing.T) {
	const most = 1000000000
	none := frac(0, 0)
	for i, c := range []fractionResult{
		{impl.SumOf, frac(most-1, 1), frac(1, 1), frac(most, 1), true},
		{impl.SumOf, frac(most, 1), frac(1, 1), none, false},
		{impl.SumOf, frac(1-most, 1), frac(-1, 1), frac(-most, 1), true},
		{impl.SumOf, frac(-most, 1), frac(-1, 1), none, false},
		{impl.SumOf, frac(1, 31250), frac(1, 32000), frac(253, 4000000), true},
		{impl.SumOf, frac(1, 25000), frac(1, 40001), none, false},
		{impl.SumOf, frac(1, 3), frac(1, 500000000), none, false},
		{impl.SumOf, frac(1, most), frac(1, most-1), none, false},
		{impl.SumOf, frac(1, most), frac(-1, most), frac(0, 1), true},
		// Parts of 1999999998000000000 and 1000000000000000000 before they are reduced, and of the same size with other signs.
		{impl.SumOf, frac(most-1, most), frac(most-1, most), frac(most-1, most/2), true},
		{impl.SumOf, frac(1-most, most), frac(1-most, most), frac(1-most, most/2), true},
		{impl.SumOf, frac(most, most-1), frac(most, most-1), none, false},
		{impl.SumOf, frac(most-1, most-2), frac(most-3, most-2), frac(2, 1), true},
		{impl.DifferenceOf, frac(most-1, most), frac(1-most, most), frac(most-1, most/2), true},
		{impl.DifferenceOf, frac(most-1, most), frac(most-1, most), frac(0, 1), true},
		{impl.DifferenceOf, frac(1-most, 1), frac(1, 1), frac(-most, 1), true},
		{impl.DifferenceOf, frac(-most, 1), frac(1, 1), none, false},
		{impl.DifferenceOf, frac(most, 1), frac(-1, 1), none, false},
		{impl.DifferenceOf, frac(1, 1), frac(1, most), frac(most-1, most), true},
		{impl.DifferenceOf, frac(2, 1), frac(1, most), none, false},
		{impl.DifferenceOf, frac(0, 1), frac(0, 1), frac(0, 1), true},
		{impl.ProductOf, frac(40000, 1), frac(25000, 1), frac(most, 1), true},
		{impl.ProductOf, frac(-1, 40000), frac(1, 25000), frac(-1, most), true},
		{impl.ProductOf, frac(31623, 1), frac(31623, 1), none, false},
		{impl.ProductOf, frac(1, 31623), frac(1, 31623), none, false},
		{impl.ProductOf, frac(-1001, 1), frac(999001, 1), none, false},
		{impl.ProductOf, frac(7, 1), frac(142857143, 1), none, false},
		{impl.ProductOf, frac(1, 7), frac(1, 142857143), none, false},
		{impl.ProductOf, frac(most-1, most), frac(most, most-1), frac(1, 1), true},
		{impl.ProductOf, frac(-most, 1), frac(1, most), frac(-1, 1), true},
		{impl.ProductOf, frac(-most, most-1), frac(0, 1), frac(0, 1), true},
		{impl.ProductOf, frac(most, 1), frac(most, 1), none, false},
		{impl.QuotientOf, frac(40000, 1), frac(-1, 25000), frac(-most, 1), true},
		{impl.QuotientOf, frac(1, 40000), frac(25000, 1), frac(1, most), true},
		{impl.QuotientOf, frac(7, 1), frac(1, 142857143), none, false},
		{impl.QuotientOf, frac(-1, 7), frac(-142857143, 1), none, false},
		{impl.QuotientOf, frac(1-most, most), frac(1-most, most), frac(1, 1), true},
		{impl.QuotientOf, frac(most, 1), frac(most, 1), frac(1, 1), true},
		{impl.QuotientOf, frac(0, 1), frac(-most, most-1), frac(0, 1), true},
		{impl.QuotientOf, frac(1, most), frac(most, 1), none, false},
		{impl.QuotientOf, frac(1, 2), frac(0, 1), none, false},
		{impl.QuotientOf, frac(0, 1), frac(0, 1), none, false},
		{impl.QuotientOf, frac(-most, 1), frac(0, 1), none, false},
	} {
		if got, ok := c.call(c.a, c.b); got != c.want || ok != c.ok {
			t.Error(i, c.a, c.b, "->", got, ok, "want", c.want, c.ok)
		}
	}
}

func TestIsLess(t *testing.T) {
	list := sampleFractions()
	for _, a := range list {
		for _, b := range list {
			is, ok := impl.IsLess(a, b)
			if !ok || is != (ratOf(a).Cmp(ratOf(b)) < 0) {
				t.Error(a, b, is, ok)
			}
		}
	}
}

func TestFloorAndRest(t *testing.T) {
	for _, a := range sampleFractions() {
		floor, rest, ok := impl.FloorAndRest(a)
		over := new(big.Rat).Sub(ratOf(a), big.NewRat(int64(floor), 1))
		if over.Sign() < 0 || over.Cmp(big.NewRat(1, 1)) >= 0 {
			t.Error(a, "floor", floor)
		}
		checkFraction(t, "rest", rest, ok, over)
	}
	for _, c := range [][5]int{
		{-3, 2, -2, 1, 2}, {3, 2, 1, 1, 2}, {0, 1, 0, 0, 1}, {-1, 1, -1, 0, 1}, {5, 1, 5, 0, 1}, {-1, 1000000000, -1, 999999999, 1000000000},
		{1, 1000000000, 0, 1, 1000000000}, {-1000000000, 1, -1000000000, 0, 1}, {1000000000, 1, 1000000000, 0, 1},
		{-1000000000, 999999999, -2, 999999998, 999999999}, {-999999999, 2, -500000000, 1, 2}, {-4, 3, -2, 2, 3}, {-1, 3, -1, 2, 3},
	} {
		floor, rest, ok := impl.FloorAndRest(frac(c[0], c[1]))
		if floor != c[2] || rest != frac(c[3], c[4]) || !ok {
			t.Error(c, floor, rest, ok)
		}
	}
}

func TestFractionHeight(t *testing.T) {
	for _, a := range sampleFractions() {
		want := a.Den
		for _, n := range []int{a.Num, -a.Num} {
			if n > want {
				want = n
			}
		}
		if n, ok := impl.FractionHeight(a); n != want || !ok {
			t.Error(a, n, ok)
		}
	}
	for _, c := range [][3]int{{0, 1, 1}, {-3, 2, 3}, {2, 3, 3}, {-2, 3, 3}, {-1, 1, 1}, {-1000000000, 1, 1000000000}, {1, 1000000000, 1000000000}} {
		if n, ok := impl.FractionHeight(frac(c[0], c[1])); n != c[2] || !ok {
			t.Error(c, n, ok)
		}
	}
}

func TestSquareRootOf(t *testing.T) {
	const greatest = 31622
	for n := 0; n <= greatest; n++ {
		for _, d := range []int{1, 2, greatest - n} {
			root, ok := fractionOfRat(big.NewRat(int64(n), int64(max(d, 1))))
			if !ok {
				t.Fatal("no root", n, d)
			}
			square := frac(root.Num*root.Num, root.Den*root.Den)
			if got, ok := impl.SquareRootOf(square); got != root || !ok {
				t.Fatal(square, got, ok)
			}
			if square.Num == 0 {
				continue
			}
			// Next to a square greater than 1 there is none, and its opposite is none.
			for _, a := range []impl.Fraction{frac(-square.Num, square.Den), frac(square.Num+1, 1), frac(1, square.Num+1)} {
				if got, ok := impl.SquareRootOf(a); got != frac(0, 0) || ok {
					t.Fatal(a, got, ok)
				}
			}
			if square.Num == 1 {
				continue
			}
			if got, ok := impl.SquareRootOf(frac(square.Num-1, 1)); got != frac(0, 0) || ok {
				t.Fatal(square.Num-1, got, ok)
			}
		}
	}
}

func TestFractionsWithoutRoots(t *testing.T) {
	for _, a := range []impl.Fraction{
		frac(2, 1), frac(1, 2), frac(3, 4), frac(4, 3), frac(-4, 9), frac(-1, 1), frac(-9, 4), frac(8, 9), frac(9, 8), frac(2, 3),
		frac(1000000000, 1), frac(1, 1000000000), frac(999950883, 1), frac(999950885, 1), frac(-999950884, 1), frac(999999999, 1000000000), frac(-1000000000, 1),
	} {
		if got, ok := impl.SquareRootOf(a); got != frac(0, 0) || ok {
			t.Error(a, got, ok)
		}
	}
	if got, ok := impl.SquareRootOf(frac(999950884, 999887641)); got != frac(31622, 31621) || !ok {
		t.Error("greatest root", got, ok)
	}
}

// simplestBetween finds a simplest fraction by the document's words, one number after the other, among those with small parts.
func simplestBetween(a impl.Fraction, b impl.Fraction, most int) (impl.Fraction, bool) {
	low, high := ratOf(a), ratOf(b)
	for den := 1; den <= 1000; den++ {
		for num := 0; num <= most*den; num++ {
			for _, n := range []int{num, -num} {
				r := big.NewRat(int64(n), int64(den))
				if low.Cmp(r) <= 0 && r.Cmp(high) <= 0 {
					return frac(n, den), true
				}
			}
		}
	}
	return frac(0, 0), false
}

func TestSimplestBetweenSmallBounds(t *testing.T) {
	var list []impl.Fraction
	for den := 1; den <= 9; den++ {
		for num := -2 * den; num <= 2*den; num++ {
			if impl.IsFraction(frac(num, den)) {
				list = append(list, frac(num, den))
			}
		}
	}
	for _, a := range list {
		for _, b := range list {
			got, ok := impl.SimplestIn(a, b)
			if ratOf(a).Cmp(ratOf(b)) > 0 {
				if got != frac(0, 0) || ok {
					t.Error("wrong order", a, b, got, ok)
				}
				continue
			}
			if want, fine := simplestBetween(a, b, 2); got != want || ok != fine {
				t.Error(a, b, got, ok, want, fine)
			}
		}
	}
}

// hasNumber reports whether a number with a Den is between two bounds, the first one not greater than the other.
func hasNumber(a impl.Fraction, b impl.Fraction, den int) bool {
	// The least multiple of 1 / den that is not less than a.
	num := new(big.Int).Mul(big.NewInt(int64(a.Num)), big.NewInt(int64(den)))
	num.Neg(num.Div(num.Neg(num), big.NewInt(int64(a.Den))))
	r := new(big.Rat).SetFrac(num, big.NewInt(int64(den)))
	return r.Cmp(ratOf(b)) <= 0
}

func TestSimplestBetweenAllBounds(t *testing.T) {
	list := sampleFractions()
	for _, a := range list {
		for _, b := range list {
			if ratOf(a).Cmp(ratOf(b)) > 0 {
				if got, ok := impl.SimplestIn(a, b); got != frac(0, 0) || ok {
					t.Error("wrong order", a, b, got, ok)
				}
				continue
			}
			den := 1
			for den <= 1000 && !hasNumber(a, b, den) {
				den++
			}
			got, ok := impl.SimplestIn(a, b)
			if den > 1000 {
				if got != frac(0, 0) || ok {
					t.Error("Den over 1000", a, b, got, ok)
				}
				continue
			}
			if !ok || !impl.IsFraction(got) || got.Den != den || ratOf(got).Cmp(ratOf(a)) < 0 || ratOf(got).Cmp(ratOf(b)) > 0 {
				t.Error(a, b, got, ok, "want Den", den)
				continue
			}
			// One step nearer to 0 is beyond a bound, or on the other side of 0.
			nearer := frac(got.Num-1, den)
			if got.Num < 0 {
				nearer.Num = got.Num + 1
			}
			if got.Num != 0 && ratOf(a).Cmp(ratOf(nearer)) <= 0 && ratOf(nearer).Cmp(ratOf(b)) <= 0 {
				t.Error(a, b, got, "is not nearest to 0")
			}
		}
	}
}

func TestSimplestIn(t *testing.T) {
	const most = 1000000000
	for _, c := range [][6]int{
		{3, 10, 2, 5, 1, 3}, {-2, 5, -3, 10, -1, 3}, {1, 3, 1, 3, 1, 3}, {-1, 3, 1, 2, 0, 1}, {-1, 1, 1, 1, 0, 1}, {-1, most, 1, most, 0, 1},
		{0, 1, 1, 1, 0, 1}, {-5, 1, 0, 1, 0, 1}, {0, 1, 0, 1, 0, 1}, {3, 1, 7, 1, 3, 1}, {-7, 1, -3, 1, -3, 1}, {5, 2, 9, 2, 3, 1}, {-9, 2, -5, 2, -3, 1},
		{-1, 2, 1, 2, 0, 1}, {1, 3, 2, 3, 1, 2}, {-2, 3, -1, 3, -1, 2}, {-1, 2, -1, 2, -1, 2}, {1, 2, 1, 1, 1, 1}, {-1, 1, -1, 2, -1, 1},
		{-most, 1, most, 1, 0, 1}, {most, 1, most, 1, most, 1}, {-most, 1, -most, 1, -most, 1}, {most - 1, 1, most, 1, most - 1, 1}, {most - 1, 2, most - 1, 2, most - 1, 2},
		// Den 1000 is told, alone or between bounds that need it.
		{1, 1000, 1, 1000, 1, 1000}, {-999, 1000, -999, 1000, -999, 1000}, {999999999, 1000, 999999999, 1000, 999999999, 1000}, {1, 1001, 1, 1000, 1, 1000}, {-1, 1000, -1, 1001, -1, 1000}, {2, 2001, 2, 1999, 1, 1000}, {-2, 1999, -2, 2001, -1, 1000}, {1, 999, 1, 998, 1, 998},
	} {
		got, ok := impl.SimplestIn(frac(c[0], c[1]), frac(c[2], c[3]))
		if got != frac(c[4], c[5]) || !ok {
			t.Error(c, got, ok)
		}
	}
	for _, c := range [][4]int{
		{1, 1001, 1, 1001}, {-1, 1001, -1, 1001}, {1000, 1001, 1000, 1001}, {1, 1002, 1, 1001}, {-1, 1001, -1, 1002}, {1, most, 1, 1001}, {2, 2003, 2, 2001}, {-2, 2001, -2, 2003},
		{1, most, 1, most}, {1, most, 1, most - 1}, {-1, most - 1, -1, most}, {most, most - 1, most, most - 1},
		{2, 5, 3, 10}, {1, 1, 0, 1}, {0, 1, -1, 1}, {1, most - 1, 1, most}, {-1, most, -1, most - 1}, {most, 1, -most, 1},
	} {
		if got, ok := impl.SimplestIn(frac(c[0], c[1]), frac(c[2], c[3])); got != frac(0, 0) || ok {
			t.Error(c, got, ok)
		}
	}
}

func TestFractionText(t *testing.T) {
	for _, a := range sampleFractions() {
		want := ratOf(a).RatString()
		if s, ok := impl.FractionText(a); s != want || !ok {
			t.Error(a, s, ok)
		}
		if back, ok := impl.ParseFraction(want); back != a || !ok {
			t.Error(want, back, ok)
		}
	}
	for s, a := range map[string]impl.Fraction{
		"0": frac(0, 1), "1": frac(1, 1), "-1": frac(-1, 1), "-3/2": frac(-3, 2), "1/1000000000": frac(1, 1000000000), "-1000000000": frac(-1000000000, 1),
		"1000000000/999999999": frac(1000000000, 999999999), "-1000000000/999999999": frac(-1000000000, 999999999), "10/7": frac(10, 7), "7/10": frac(7, 10), "100": frac(100, 1),
	} {
		if text, ok := impl.FractionText(a); text != s || !ok {
			t.Error(a, text, ok)
		}
		if back, ok := impl.ParseFraction(s); back != a || !ok {
			t.Error(s, back, ok)
		}
	}
}

func TestTextsThatAreNoFractions(t *testing.T) {
	wrapped := strconv.FormatUint(math.MaxUint64, 10)
	texts := []string{
		"", "-", "/", "-/", "--", "//", "+", "1/", "/1", "-1/", "/2", "-/2", "1//2", "1/2/", "1/2/3", "/1/2", "--1", "--1/2", "-+1", "+1", "+1/2", "1/+2", "1/-2", "-1/-2", "1/--2", "1-", "1-/2", "1/2-",
		"-0", "00", "01", "-01", "01/2", "1/02", "-01/2", "1/002", "0/1", "0/2", "-0/1", "0/0", "1/0", "-1/0", "1/-0", "1/1", "-1/1", "3/1", "0/1000000000",
		"2/4", "-2/4", "6/4", "2/2", "10/5", "1000000000/1000000000", "1000000000/2",
		"1000000001", "-1000000001", "1/1000000001", "-1/1000000001", "1000000001/1000000000", "1000000000/1000000001", "9999999999", "10000000000", "1/10000000000", "01000000000",
		"18446744073709551617", "18446744073709551616", "-18446744073709551615", wrapped, "-" + wrapped, "1/" + wrapped, "18446744073709551617/2", "1/18446744073709551618", "9223372036854775808", "-9223372036854775808", "-9223372036854775809",
		" ", " 1", "1 ", "1 /2", "1/ 2", "- 1", "1\n", "1/2\n", "\n", "\t1", "\x00", "1\x00", "1/2\x00", "1.5", "1.0", "1e3", "1_000", "0x10", "0b1", "a", "1/a", "a/2", "1/2a", "1,2", "1:2", "1\\2",
		":", ";", "1:", "\u0661", "1/\u0662", "\uff11", "\u22121", "1\u20442", "1\u22152", "\u00bd", "\xff", "1\xff", "\xff1", "1/\xff", "1/2\xff", "\u0131", "\U00010031", "1/\U00010032",
		strings.Repeat("0", 1000), strings.Repeat("1", 100000), strings.Repeat("-", 1000), strings.Repeat("/", 1000), "1/" + strings.Repeat("3", 100000), "1/" + strings.Repeat("0", 1000) + "2", "nil", "NaN", "inf",
	}
	for _, s := range texts {
		if a, ok := impl.ParseFraction(s); a != frac(0, 0) || ok {
			t.Errorf("%.40q: %v, %v", s, a, ok)
		}
	}
}

// isFractionText reports whether a text is the one of a fraction, by its letters and with big numbers.
func isFractionText(s string) bool {
	for _, b := range []byte(s) {
		if b != '-' && b != '/' && (b < '0' || b > '9') {
			return false
		}
	}
	r, ok := new(big.Rat).SetString(s)
	if !ok || r.RatString() != s {
		return false
	}
	_, ok = fractionOfRat(r)
	return ok
}

func TestAllShortTexts(t *testing.T) {
	letters := "-/0123689+ :"
	var check func(s string, more int)
	check = func(s string, more int) {
		a, ok := impl.ParseFraction(s)
		if ok != isFractionText(s) {
			t.Errorf("%q: %v, %v", s, a, ok)
		}
		if !ok && a != frac(0, 0) {
			t.Errorf("%q: %v", s, a)
		}
		if ok {
			if text, fine := impl.FractionText(a); text != s || !fine {
				t.Errorf("%q is read as %v with the text %q", s, a, text)
			}
		}
		if more > 0 {
			for i := range len(letters) {
				check(s+letters[i:i+1], more-1)
			}
		}
	}
	check("", 4)
}

func TestEveryByteInFractionText(t *testing.T) {
	for b := range 256 {
		c := string([]byte{byte(b)})
		for _, s := range []string{c, c + "1", "1" + c, "1" + c + "2", c + "1/2", "1/2" + c, "1/" + c, "1/" + c + "2", "-" + c} {
			if a, ok := impl.ParseFraction(s); ok != isFractionText(s) || !ok && a != frac(0, 0) {
				t.Errorf("%q: %v, %v", s, a, ok)
			}
		}
	}
}
