package tests

import (
	"math"
	"math/big"
	"slices"
	"strings"
	"testing"

	"loop.example/g01004/impl"
)

func TestWholeExample(t *testing.T) {
	a, ok := impl.WholeOf(123456)
	if !ok || a.Negative || !slices.Equal(a.Limbs, []int{3456, 12}) {
		t.Fatal("limbs", a, ok)
	}
	square, ok := impl.MultiplyWholes(a, a)
	checkWhole(t, "square", square, ok, big.NewInt(15241383936))
	quotient, rest, ok := impl.DivideWhole(a, 1000)
	checkWhole(t, "quotient", quotient, ok, big.NewInt(123))
	if rest != 456 {
		t.Error("rest", rest)
	}
	if n, ok := impl.BitLength(a); n != 17 || !ok {
		t.Error("bits", n, ok)
	}
}

func TestWholeConstants(t *testing.T) {
	if impl.MaxLimbs != 400 || impl.LimbBase != 10000 {
		t.Error(impl.MaxLimbs, impl.LimbBase)
	}
}

func TestIsWhole(t *testing.T) {
	for _, a := range sampleWholes(t) {
		if !impl.IsWhole(a) {
			t.Error("valid", a)
		}
	}
	if !impl.IsWhole(impl.Whole{Limbs: []int{}}) || !impl.IsWhole(impl.Whole{}) {
		t.Error("0 with a nil and an empty slice")
	}
	for _, a := range invalidWholes() {
		if impl.IsWhole(a) {
			t.Error("invalid", a)
		}
	}
}

func TestWholeOf(t *testing.T) {
	const most = 1000000000000000
	for _, n := range []int{0, 1, -1, 9999, -9999, 10000, -10000, 10001, 99990000, 100000000, -123456789, most - 1, most, 1 - most, -most} {
		a, ok := impl.WholeOf(n)
		checkWhole(t, "WholeOf", a, ok, big.NewInt(int64(n)))
	}
	for _, n := range []int{most + 1, -most - 1, math.MaxInt, math.MinInt, math.MinInt + 1} {
		if a, ok := impl.WholeOf(n); ok || !isZeroWhole(a) {
			t.Error("out of range", n, a, ok)
		}
	}
}

func TestZeroHasNoLimbs(t *testing.T) {
	one := impl.Whole{Limbs: []int{1}}
	minus := impl.Whole{Negative: true, Limbs: []int{1}}
	zeros := map[string]func() (impl.Whole, bool){
		"WholeOf":        func() (impl.Whole, bool) { return impl.WholeOf(0) },
		"AddWholes":      func() (impl.Whole, bool) { return impl.AddWholes(minus, one) },
		"SubtractWholes": func() (impl.Whole, bool) { return impl.SubtractWholes(minus, minus) },
		"0 - 0":          func() (impl.Whole, bool) { return impl.SubtractWholes(impl.Whole{}, impl.Whole{}) },
		"-1 * 0":         func() (impl.Whole, bool) { return impl.MultiplyWholes(minus, impl.Whole{}) },
		"PowerOfWhole":   func() (impl.Whole, bool) { return impl.PowerOfWhole(impl.Whole{}, 5) },
		"ParseWhole":     func() (impl.Whole, bool) { return impl.ParseWhole("0") },
		"DivideWhole": func() (impl.Whole, bool) {
			q, _, ok := impl.DivideWhole(one, 2)
			return q, ok
		},
	}
	for name, make := range zeros {
		if a, ok := make(); !ok || !isZeroWhole(a) {
			t.Error(name, a, ok)
		}
	}
}

func TestSumsAndDifferences(t *testing.T) {
	for _, m := range sampleNumbers(t) {
		for _, n := range sampleNumbers(t) {
			a, b := wholeOfBig(m), wholeOfBig(n)
			sum, ok := impl.AddWholes(a, b)
			checkWhole(t, "sum", sum, ok, new(big.Int).Add(m, n))
			if ok {
				back, fine := impl.SubtractWholes(sum, b)
				checkWhole(t, "a + b - b", back, fine, m)
			}
			difference, ok := impl.SubtractWholes(a, b)
			checkWhole(t, "difference", difference, ok, new(big.Int).Sub(m, n))
			if ok {
				back, fine := impl.AddWholes(difference, b)
				checkWhole(t, "a - b + b", back, fine, m)
			}
		}
	}
}

func TestLimitOfSums(t *testing.T) {
	most := impl.Whole{Limbs: slices.Repeat([]int{9999}, 400)}
	least := impl.Whole{Negative: true, Limbs: slices.Repeat([]int{9999}, 400)}
	one := impl.Whole{Limbs: []int{1}}
	if a, ok := impl.AddWholes(most, one); ok || !isZeroWhole(a) {
		t.Error("sum of 401 limbs", a, ok)
	}
	if a, ok := impl.SubtractWholes(least, one); ok || !isZeroWhole(a) {
		t.Error("difference of 401 limbs", a, ok)
	}
	a, ok := impl.SubtractWholes(most, one)
	checkWhole(t, "most - 1", a, ok, new(big.Int).Sub(powerOfTen(1600), big.NewInt(2)))
	a, ok = impl.AddWholes(a, one)
	checkWhole(t, "most - 1 + 1", a, ok, new(big.Int).Sub(powerOfTen(1600), big.NewInt(1)))
}

func TestProducts(t *testing.T) {
	for _, m := range sampleNumbers(t) {
		for _, n := range sampleNumbers(t) {
			product, ok := impl.MultiplyWholes(wholeOfBig(m), wholeOfBig(n))
			checkWhole(t, "product", product, ok, new(big.Int).Mul(m, n))
		}
	}
}

func TestLimitOfProducts(t *testing.T) {
	half := powerOfTen(800)
	below := new(big.Int).Sub(half, big.NewInt(1))
	for _, pair := range [][2]*big.Int{
		{half, below},
		{half, half},
		{below, below},
		{powerOfTen(1599), big.NewInt(9)},
		{powerOfTen(1599), big.NewInt(10)},
		{powerOfTen(1596), big.NewInt(9999)},
		{powerOfTen(1596), big.NewInt(10000)},
		{powerOfTen(1596), big.NewInt(-10000)},
		{new(big.Int).Sub(powerOfTen(1600), big.NewInt(1)), big.NewInt(-1)},
		{new(big.Int).Sub(powerOfTen(1600), big.NewInt(1)), big.NewInt(0)},
		{new(big.Int).Sub(powerOfTen(1600), big.NewInt(1)), big.NewInt(2)},
	} {
		for _, p := range [][2]*big.Int{{pair[0], pair[1]}, {pair[1], pair[0]}} {
			product, ok := impl.MultiplyWholes(wholeOfBig(p[0]), wholeOfBig(p[1]))
			checkWhole(t, "product", product, ok, new(big.Int).Mul(p[0], p[1]))
		}
	}
}

func TestQuotientsAndRests(t *testing.T) {
	divisors := []int{1, 2, 3, 7, 10, 1000, 9999, 10000, 10001, 1 << 39, 999983, 999999999999, 1000000000000}
	for _, m := range sampleNumbers(t) {
		for _, n := range divisors {
			a := wholeOfBig(m)
			quotient, rest, ok := impl.DivideWhole(a, n)
			// DivMod rounds as the document does, as n is greater than 0.
			want, over := new(big.Int).DivMod(m, big.NewInt(int64(n)), new(big.Int))
			checkWhole(t, "quotient", quotient, ok, want)
			if rest < 0 || rest >= n || int64(rest) != over.Int64() {
				t.Errorf("rest of %v by %v: %v", m, n, rest)
			}
			whole, _ := impl.WholeOf(n)
			product, fine := impl.MultiplyWholes(quotient, whole)
			if !fine && fits(new(big.Int).Mul(want, big.NewInt(int64(n)))) {
				t.Errorf("no product of %v and %v", quotient, n)
			}
			if fine {
				over, _ := impl.WholeOf(rest)
				sum, fine := impl.AddWholes(product, over)
				checkWhole(t, "quotient n + rest", sum, fine, m)
			}
		}
	}
}

func TestDivideRoundsDown(t *testing.T) {
	for _, c := range [][4]int{{-1, 2, -1, 1}, {-7, 2, -4, 1}, {-8, 2, -4, 0}, {7, 2, 3, 1}, {-9999, 10000, -1, 1}, {-10001, 10000, -2, 9999}, {-99990001, 10000, -10000, 9999}, {-1, 1000000000000, -1, 999999999999}, {0, 1, 0, 0}, {0, 5, 0, 0}} {
		a, _ := impl.WholeOf(c[0])
		quotient, rest, ok := impl.DivideWhole(a, c[1])
		checkWhole(t, "quotient", quotient, ok, big.NewInt(int64(c[2])))
		if rest != c[3] {
			t.Error(c, "rest", rest)
		}
	}
}

func TestRangeOfDivisors(t *testing.T) {
	a, _ := impl.WholeOf(123456)
	for _, n := range []int{0, -1, -1000, 1000000000001, math.MaxInt, math.MinInt} {
		if q, r, ok := impl.DivideWhole(a, n); ok || r != 0 || !isZeroWhole(q) {
			t.Error("divided by", n, q, r, ok)
		}
		if d, ok := impl.DivisorWith(a, n); ok || d != 0 {
			t.Error("divisor with", n, d, ok)
		}
	}
}

func TestCompareWholes(t *testing.T) {
	for _, m := range sampleNumbers(t) {
		for _, n := range sampleNumbers(t) {
			got, ok := impl.CompareWholes(wholeOfBig(m), wholeOfBig(n))
			if !ok || got != m.Cmp(n) {
				t.Errorf("%v and %v: %v, %v", m, n, got, ok)
			}
		}
	}
}

func TestBitLength(t *testing.T) {
	numbers := sampleNumbers(t)
	for k := uint(0); k <= 5314; k += 1 + k/40 {
		for _, by := range []int64{-1, 0, 1} {
			numbers = append(numbers, new(big.Int).Add(powerOfTwo(k), big.NewInt(by)))
		}
	}
	for _, n := range numbers {
		if k, ok := impl.BitLength(wholeOfBig(n)); !ok || k != n.BitLen() {
			t.Errorf("%v: %v, %v", n, k, ok)
		}
	}
	if k, ok := impl.BitLength(impl.Whole{}); k != 0 || !ok {
		t.Error("0 has the bit length", k, ok)
	}
}

func TestDivisorWith(t *testing.T) {
	for _, m := range sampleNumbers(t) {
		for _, n := range []int{1, 2, 6, 97, 10000, 360360, 123456, 1 << 39, 999999999989, 999999999999, 1000000000000} {
			want := new(big.Int).GCD(nil, nil, new(big.Int).Abs(m), big.NewInt(int64(n)))
			if d, ok := impl.DivisorWith(wholeOfBig(m), n); !ok || int64(d) != want.Int64() {
				t.Errorf("%v with %v: %v, %v", m, n, d, ok)
			}
		}
	}
}

func TestPowerOfWhole(t *testing.T) {
	for _, m := range sampleNumbers(t) {
		for n := 0; n <= 64; n++ {
			power, ok := impl.PowerOfWhole(wholeOfBig(m), n)
			checkWhole(t, "power", power, ok, new(big.Int).Exp(m, big.NewInt(int64(n)), nil))
		}
	}
}

// greatestBase returns the greatest number whose n-th power has at most 400 limbs.
func greatestBase(n int) *big.Int {
	power := func(base *big.Int) *big.Int {
		return new(big.Int).Exp(base, big.NewInt(int64(n)), nil)
	}
	base := new(big.Int)
	for k := 5316 / n; k >= 0; k-- {
		next := new(big.Int).SetBit(base, k, 1)
		if fits(power(next)) {
			base = next
		}
	}
	return base
}

func TestLimitOfPowers(t *testing.T) {
	// Also where a square that is not needed would have more than 400 limbs, the power is told.
	for n := 2; n <= 64; n++ {
		base := greatestBase(n)
		power, ok := impl.PowerOfWhole(wholeOfBig(base), n)
		checkWhole(t, "greatest power", power, ok, new(big.Int).Exp(base, big.NewInt(int64(n)), nil))
		power, ok = impl.PowerOfWhole(wholeOfBig(new(big.Int).Neg(base)), n)
		checkWhole(t, "power of a negative base", power, ok, new(big.Int).Exp(new(big.Int).Neg(base), big.NewInt(int64(n)), nil))
		next := wholeOfBig(new(big.Int).Add(base, big.NewInt(1)))
		if power, ok := impl.PowerOfWhole(next, n); ok || !isZeroWhole(power) {
			t.Error("power with more than 400 limbs", n, power, ok)
		}
	}
}

func TestRangeOfPowers(t *testing.T) {
	one, _ := impl.WholeOf(1)
	for _, n := range []int{-1, 65, math.MaxInt, math.MinInt} {
		for _, a := range []impl.Whole{{}, one} {
			if power, ok := impl.PowerOfWhole(a, n); ok || !isZeroWhole(power) {
				t.Error(a, "to the power", n, power, ok)
			}
		}
	}
	zero, ok := impl.PowerOfWhole(impl.Whole{}, 0)
	checkWhole(t, "0 to the power 0", zero, ok, big.NewInt(1))
}

func TestWholeTexts(t *testing.T) {
	for _, n := range sampleNumbers(t) {
		text, ok := impl.WholeText(wholeOfBig(n))
		if !ok || text != n.String() {
			t.Errorf("text of %v: %q, %v", n, text, ok)
		}
		a, ok := impl.ParseWhole(n.String())
		checkWhole(t, "ParseWhole", a, ok, n)
	}
}

func TestTextsThatAreNone(t *testing.T) {
	long := strings.Repeat("9", 1601)
	texts := []string{
		"", "-", "+", "--", "--1", "-+1", "+1", "-0", "-00", "00", "01", "-01", "0000", "00001", "0-", "1-", "1-1",
		" ", " 1", "1 ", "- 1", "1 2", "1\n", "\n", "\t1", "1\x00", "\x00", "1,000", "1.0", "1.", "1e3", "1_000", "0x10", "0b1", "a", "12a4", "1/2",
		"12:4", ":", "/", "1/", "nil", "\u0661", "1\u0661", "\uff11", "12\uff13", "\xff", "1\xff", "\xff1", "\u22121", "1\u00b2",
		long, "-" + long, "1" + strings.Repeat("0", 1600), "0" + strings.Repeat("9", 1600), "-0" + strings.Repeat("9", 1600),
		strings.Repeat("0", 1600), strings.Repeat("1", 100000), strings.Repeat("-", 1600),
	}
	for _, s := range texts {
		if a, ok := impl.ParseWhole(s); ok || !isZeroWhole(a) {
			t.Errorf("%.40q: %v, %v", s, a, ok)
		}
	}
}

func TestEveryByteInText(t *testing.T) {
	for b := range 256 {
		for _, s := range []string{string([]byte{byte(b)}), string([]byte{byte(b), '1'}), string([]byte{'1', byte(b)}), string([]byte{'1', byte(b), '1'})} {
			n, fine := new(big.Int).SetString(s, 10)
			fine = fine && n.String() == s
			a, ok := impl.ParseWhole(s)
			if ok != fine {
				t.Errorf("%q: %v, %v", s, a, ok)
			}
			if fine {
				checkWhole(t, "ParseWhole", a, ok, n)
			}
		}
	}
}
