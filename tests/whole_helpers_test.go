package tests

import (
	"math/big"
	"slices"
	"strings"
	"testing"

	"loop.example/g01004/impl"
)

// sentinel fills the spare capacity of arguments, which no call may touch.
const sentinel = 7777

// wholeOfBig makes a whole from a number by the document's definition alone, with spare capacity behind the limbs.
func wholeOfBig(n *big.Int) impl.Whole {
	base := big.NewInt(impl.LimbBase)
	rest := new(big.Int).Abs(n)
	limb := new(big.Int)
	limbs := make([]int, 0, 8)
	for rest.Sign() > 0 {
		rest.QuoRem(rest, base, limb)
		limbs = append(limbs, int(limb.Int64()))
	}
	return impl.Whole{Negative: n.Sign() < 0, Limbs: withSpare(limbs)}
}

// withSpare returns a copy of a slice with sentinels in the capacity behind its length.
func withSpare(list []int) []int {
	spare := append(slices.Clone(list), sentinel, sentinel, sentinel)
	return spare[:len(list)]
}

// bigOfWhole returns the number that valid limbs stand for.
func bigOfWhole(a impl.Whole) *big.Int {
	n := new(big.Int)
	for i := len(a.Limbs) - 1; i >= 0; i-- {
		n.Mul(n, big.NewInt(impl.LimbBase))
		n.Add(n, big.NewInt(int64(a.Limbs[i])))
	}
	if a.Negative {
		n.Neg(n)
	}
	return n
}

// isLegal reports by the document's definition alone whether a whole is valid.
func isLegal(a impl.Whole) bool {
	n := len(a.Limbs)
	for _, limb := range a.Limbs {
		if limb < 0 || limb > 9999 {
			return false
		}
	}
	return n <= 400 && (n > 0 && a.Limbs[n-1] != 0 || n == 0 && !a.Negative)
}

// firstTooLong is the least number with 401 limbs.
var firstTooLong = powerOfTen(1600)

// fits reports whether a number has at most 400 limbs.
func fits(n *big.Int) bool {
	return n.CmpAbs(firstTooLong) < 0
}

// checkWhole compares a result with the number that it should be. A number with too many limbs should fail.
func checkWhole(t *testing.T, what string, got impl.Whole, ok bool, want *big.Int) {
	t.Helper()
	if !fits(want) {
		if ok || !isZeroWhole(got) {
			t.Errorf("%s: got %v, %v where there are too many limbs", what, got, ok)
		}
		return
	}
	if !ok || !isLegal(got) || bigOfWhole(got).Cmp(want) != 0 {
		t.Errorf("%s: got %v, %v, want %v", what, got, ok, want)
	}
}

// isZeroWhole reports whether a whole is the zero value.
func isZeroWhole(a impl.Whole) bool {
	return !a.Negative && len(a.Limbs) == 0
}

func powerOfTen(n int64) *big.Int {
	return new(big.Int).Exp(big.NewInt(10), big.NewInt(n), nil)
}

func powerOfTwo(n uint) *big.Int {
	return new(big.Int).Lsh(big.NewInt(1), n)
}

func bigOf(t *testing.T, s string) *big.Int {
	t.Helper()
	n, ok := new(big.Int).SetString(s, 10)
	if !ok {
		t.Fatal("no number", s)
	}
	return n
}

// generator makes the same numbers in each run.
type generator uint64

func (g *generator) below(n int) int {
	*g = *g*6364136223846793005 + 1442695040888963407
	return int(uint64(*g)>>33) % n
}

// digits returns a number with n random digits, many of them 0 or 9, so that carries run over many limbs.
func (g *generator) digits(t *testing.T, n int) *big.Int {
	var text strings.Builder
	text.WriteByte('1')
	for text.Len() < n {
		run := strings.Repeat(string("09010923456789"[g.below(14)]), 1+g.below(9))
		text.WriteString(run)
	}
	return bigOf(t, text.String()[:n])
}

// sampleNumbers returns numbers of all sizes with both signs: 0, the ends of limbs, powers of 2, and the greatest ones with 400 limbs.
func sampleNumbers(t *testing.T) []*big.Int {
	list := []*big.Int{big.NewInt(0), big.NewInt(1), big.NewInt(7), big.NewInt(123456), big.NewInt(9999)}
	near := func(n *big.Int) {
		one := big.NewInt(1)
		list = append(list, new(big.Int).Sub(n, one), n, new(big.Int).Add(n, one))
	}
	for _, k := range []int64{4, 8, 12, 15, 16, 40, 800, 1596} {
		near(powerOfTen(k))
	}
	for _, k := range []uint{31, 39, 64, 78, 1000, 5315} {
		if n := powerOfTwo(k); fits(n) {
			near(n)
		}
	}
	most := new(big.Int).Sub(powerOfTen(1600), big.NewInt(1))
	list = append(list, most, new(big.Int).Sub(most, big.NewInt(1)), new(big.Int).Rsh(most, 1))
	random := generator(1)
	for _, k := range []int{3, 5, 9, 17, 33, 65, 129, 500, 799, 800, 801, 1200, 1599, 1600} {
		list = append(list, random.digits(t, k))
	}
	for _, n := range list[1:] {
		list = append(list, new(big.Int).Neg(n))
	}
	return list
}

// sampleWholes returns the sample numbers as wholes.
func sampleWholes(t *testing.T) []impl.Whole {
	var list []impl.Whole
	for _, n := range sampleNumbers(t) {
		list = append(list, wholeOfBig(n))
	}
	return list
}

// invalidWholes returns wholes that break each one of the rules.
func invalidWholes() []impl.Whole {
	many := slices.Repeat([]int{1}, 401)
	endless := slices.Repeat([]int{9999}, 5000)
	return []impl.Whole{
		{Negative: true},
		{Negative: true, Limbs: []int{}},
		{Limbs: []int{0}},
		{Negative: true, Limbs: []int{0}},
		{Limbs: []int{1, 0}},
		{Limbs: []int{0, 0, 0}},
		{Limbs: []int{10000}},
		{Limbs: []int{10000, 1}},
		{Limbs: []int{1, 10000}},
		{Limbs: []int{1, 10000, 1}},
		{Limbs: []int{-1}},
		{Limbs: []int{-1, 1}},
		{Limbs: []int{1, -1}},
		{Negative: true, Limbs: []int{5, -9999, 5}},
		{Limbs: []int{1 << 62}},
		{Limbs: []int{-1 << 63}},
		{Limbs: []int{-1 << 63, 1}},
		{Limbs: many},
		{Negative: true, Limbs: many},
		{Limbs: append(slices.Repeat([]int{1}, 400), 0)},
		{Limbs: slices.Repeat([]int{0}, 401)},
		{Limbs: endless},
	}
}
