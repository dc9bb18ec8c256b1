package tests

import (
	"slices"
	"testing"

	"loop.example/g01004/impl"
)

// residueCall is a call with a number and a prime.
type residueCall struct {
	name string
	call func(a int, p int) (int, bool)
}

// residueCalls returns the functions that take a number modulo a prime, once for each such argument.
func residueCalls() []residueCall {
	return []residueCall{
		{"ResidueOf", impl.ResidueOf},
		{"InverseOf", impl.InverseOf},
		{"SquareSymbol", impl.SquareSymbol},
		{"SquareRoot", impl.SquareRoot},
		{"OrderOf", impl.OrderOf},
		{"ValuationOf", impl.ValuationOf},
		{"PowerOf 0", func(a int, p int) (int, bool) { return impl.PowerOf(a, 0, p) }},
		{"PowerOf 1", func(a int, p int) (int, bool) { return impl.PowerOf(a, 1, p) }},
		{"PowerOf 1000000000", func(a int, p int) (int, bool) { return impl.PowerOf(a, mostExponent, p) }},
		{"PowerOf -1", func(a int, p int) (int, bool) { return impl.PowerOf(a, -1, p) }},
		{"LogarithmOf to itself", func(a int, p int) (int, bool) { return impl.LogarithmOf(a, a, p) }},
		{"LogarithmOf to 1", func(a int, p int) (int, bool) { return impl.LogarithmOf(a, 1, p) }},
		{"LogarithmOf to 2", func(a int, p int) (int, bool) { return impl.LogarithmOf(a, 2, p) }},
		{"LogarithmOf 1", func(a int, p int) (int, bool) { return impl.LogarithmOf(1, a, p) }},
		{"LogarithmOf 0", func(a int, p int) (int, bool) { return impl.LogarithmOf(0, a, p) }},
	}
}

func TestInvalidPrimesFail(t *testing.T) {
	for _, p := range invalidPrimes() {
		for _, c := range residueCalls() {
			for _, a := range append(invalidNumbers(), -mostNumber, -7, -1, 0, 1, 2, 3, p, p+1, p-1, mostNumber) {
				got, ok := c.call(a, p)
				checkNumber(t, got, ok, 0, false, c.name, a, p)
			}
		}
		got, ok := impl.PrimitiveRoot(p)
		checkNumber(t, got, ok, 0, false, "PrimitiveRoot", p)
	}
}

func TestNumbersOutOfRangeFail(t *testing.T) {
	for _, p := range allPrimes() {
		for _, c := range residueCalls() {
			for _, a := range invalidNumbers() {
				got, ok := c.call(a, p)
				checkNumber(t, got, ok, 0, false, c.name, a, p)
			}
		}
	}
}

func TestNumbersAtTheEndsSucceed(t *testing.T) {
	for _, p := range []int{3, 7, 11, 13, 997} {
		for _, a := range []int{mostNumber, -mostNumber} {
			for _, call := range []func(int, int) (int, bool){impl.ResidueOf, impl.InverseOf, impl.SquareSymbol, impl.OrderOf, impl.ValuationOf} {
				if got, ok := call(a, p); !ok {
					t.Error(a, p, "->", got, ok)
				}
			}
			got, ok := impl.LogarithmOf(a, a, p)
			checkNumber(t, got, ok, min(1, residue(a, p)-1), true, "the logarithm to itself", a, p)
		}
	}
}

func TestResidueCallsKeepNoState(t *testing.T) {
	for _, p := range []int{2, 3, 7, 101, 997} {
		for _, c := range residueCalls() {
			for a := -12; a <= 12; a++ {
				first, ok := c.call(a, p)
				c.call(a, p+1)
				c.call(mostNumber+1, p)
				c.call(a+1, 499)
				again, okToo := c.call(a, p)
				checkNumber(t, again, okToo, first, ok, c.name, a, p, "again")
			}
		}
	}
}

func TestListsOfPrimesShareNoMemory(t *testing.T) {
	want := []int{2, 3, 5, 7, 11, 13, 17, 19, 23, 29}
	changed, _ := impl.PrimesUpTo(30)
	kept, _ := impl.PrimesUpTo(30)
	overwrite(changed)
	if !slices.Equal(kept, want) {
		t.Error("an older list has changed", kept)
	}
	if next, ok := impl.PrimesUpTo(30); !slices.Equal(next, want) || !ok {
		t.Error("a newer list has changed", next, ok)
	}
}

func TestListsOfFactorsShareNoMemory(t *testing.T) {
	want := [][]int{{2, 3}, {3, 2}, {5, 1}}
	kept, _ := impl.FactorsOf(360)
	for i := range want {
		changed, _ := impl.FactorsOf(360)
		overwrite(changed[i])
		changed[i] = slices.Clone(want[i])
		if !slices.EqualFunc(changed, want, slices.Equal) {
			t.Error("another list of the same result has changed", changed)
		}
	}
	if !slices.EqualFunc(kept, want, slices.Equal) {
		t.Error("an older result has changed", kept)
	}
	checkFactors(t, 360, want)
}

// overwrite fills a slice and its spare capacity with sentinels.
func overwrite(list []int) {
	list = list[:cap(list)]
	for i := range list {
		list[i] = sentinel
	}
}
