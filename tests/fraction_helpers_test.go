package tests

import (
	"math"
	"math/big"
	"testing"

	"loop.example/g01004/impl"
)

// frac names a fraction shortly.
func frac(num int, den int) impl.Fraction {
	return impl.Fraction{Num: num, Den: den}
}

// ratOf returns the number that a fraction stands for.
func ratOf(a impl.Fraction) *big.Rat {
	return big.NewRat(int64(a.Num), int64(a.Den))
}

// fractionOfRat makes a fraction from a number by the document's definition alone. It returns false if there is none.
func fractionOfRat(r *big.Rat) (impl.Fraction, bool) {
	most := big.NewInt(1000000000)
	if r.Num().CmpAbs(most) > 0 || r.Denom().Cmp(most) > 0 {
		return impl.Fraction{}, false
	}
	return frac(int(r.Num().Int64()), int(r.Denom().Int64())), true
}

// checkFraction compares a result with the number that it should be. A number that is no fraction should fail.
func checkFraction(t *testing.T, what string, got impl.Fraction, ok bool, want *big.Rat) {
	t.Helper()
	expected, fine := fractionOfRat(want)
	if got != expected || ok != fine {
		t.Errorf("%s: got %v, %v, want %v", what, got, ok, want)
	}
}

// sampleFractions returns fractions of all sizes with both signs, the ones at the limits among them.
func sampleFractions() []impl.Fraction {
	const most = 1000000000
	list := []impl.Fraction{
		frac(1, 1), frac(2, 1), frac(1, 2), frac(3, 2), frac(1, 3), frac(2, 3), frac(9, 4), frac(4, 9), frac(5, 6), frac(355, 113),
		frac(999, 1000), frac(1, 1000), frac(1, 1001), frac(1000, 1001), frac(31622, 31623), frac(65536, 65537), frac(500000000, 1),
		frac(most, 1), frac(most-1, 1), frac(1, most), frac(1, most-1), frac(most, most-1), frac(most-1, most), frac(most-1, most-2),
		frac(most, 3), frac(3, most), frac(most-1, 2), frac(2, most-1), frac(most/2-1, most/2), frac(most/2+1, most), frac(999950884, 999950885),
	}
	random := generator(2)
	for _, size := range []int{10, 100, 1000, 40000, 1000000, most} {
		for range 6 {
			r := big.NewRat(int64(1+random.below(size)), int64(1+random.below(size)))
			if a, ok := fractionOfRat(r); ok {
				list = append(list, a)
			}
		}
	}
	for _, a := range list {
		list = append(list, frac(-a.Num, a.Den))
	}
	return append(list, frac(0, 1))
}

// invalidFractions returns fractions that break each one of the rules.
func invalidFractions() []impl.Fraction {
	const most = 1000000000
	return []impl.Fraction{
		{}, frac(1, 0), frac(-1, 0), frac(most, 0),
		frac(1, -1), frac(-1, -1), frac(3, -2), frac(0, -1), frac(1, -most), frac(1, math.MinInt),
		frac(2, 2), frac(-2, 2), frac(6, 4), frac(-6, 4), frac(2, 4), frac(10, 5), frac(most, most), frac(-most, most), frac(most, 2),
		frac(0, 2), frac(0, most), frac(999999937, 999999937),
		frac(most+1, 1), frac(-most-1, 1), frac(1, most+1), frac(-1, most+1), frac(most+1, most), frac(most, most+1), frac(0, most+1),
		frac(math.MaxInt, 1), frac(math.MinInt, 1), frac(1, math.MaxInt), frac(math.MinInt, math.MaxInt), frac(math.MinInt, math.MinInt),
		frac(math.MinInt, -1), frac(math.MaxInt, math.MaxInt), frac(1<<32+1, 1), frac(1, 1<<32+1),
	}
}
