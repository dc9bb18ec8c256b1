package tests

import (
	"math"
	"math/big"
	"slices"
	"testing"

	"loop.example/g01004/impl"
)

// The limits that the document names.
const (
	mostCurveA      = 1000
	mostCurveB      = 10000
	mostCoordinate  = 1000000
	mostScale       = 5
	mostSingular    = 17 // the greatest k for which -3 k^2 and 2 k^3 are in the ranges of A and B
	farthestCurveAt = 40 // no integer root is farther from 0
)

// curveOf names a curve shortly.
func curveOf(a int, b int) impl.Curve {
	return impl.Curve{A: a, B: b}
}

// power returns n to the power k.
func power(n int, k int) *big.Int {
	return new(big.Int).Exp(big.NewInt(int64(n)), big.NewInt(int64(k)), nil)
}

// times returns n times a.
func times(n int, a *big.Int) *big.Int {
	return new(big.Int).Mul(big.NewInt(int64(n)), a)
}

// coreOf returns 4 A^3 + 27 B^2.
func coreOf(c impl.Curve) *big.Int {
	return new(big.Int).Add(times(4, power(c.A, 3)), times(27, power(c.B, 2)))
}

// isLegalCurve reports by the document's definition alone whether a curve is valid.
func isLegalCurve(c impl.Curve) bool {
	return c.A >= -mostCurveA && c.A <= mostCurveA && c.B >= -mostCurveB && c.B <= mostCurveB && coreOf(c).Sign() != 0
}

// rightSide returns x^3 + A x + B.
func rightSide(c impl.Curve, x int) *big.Int {
	sum := new(big.Int).Add(power(x, 3), times(c.A, big.NewInt(int64(x))))
	return sum.Add(sum, big.NewInt(int64(c.B)))
}

// invariantOf returns the invariant of a valid curve.
func invariantOf(c impl.Curve) *big.Rat {
	return new(big.Rat).SetFrac(times(6912, power(c.A, 3)), coreOf(c))
}

// smallestOf returns the smallest model and the greatest u, searched for among all that could be.
func smallestOf(c impl.Curve) (impl.Curve, int) {
	best := 1
	for u := 2; u <= 100; u++ {
		if c.A%(u*u*u*u) == 0 && c.B%(u*u*u*u*u*u) == 0 {
			best = u
		}
	}
	for range 4 {
		c.A /= best
	}
	for range 6 {
		c.B /= best
	}
	return c, best
}

// smallCurves returns all valid curves with small coefficients.
func smallCurves() []impl.Curve {
	var list []impl.Curve
	for a := -12; a <= 12; a++ {
		for b := -20; b <= 20; b++ {
			if c := curveOf(a, b); isLegalCurve(c) {
				list = append(list, c)
			}
		}
	}
	return list
}

// endCurves returns valid curves whose coefficients are at the ends of their ranges, next to them, or next to 0.
func endCurves() []impl.Curve {
	var list []impl.Curve
	for _, a := range []int{-mostCurveA, 1 - mostCurveA, -1, 0, 1, mostCurveA - 1, mostCurveA} {
		for _, b := range []int{-mostCurveB, 1 - mostCurveB, -1, 0, 1, mostCurveB - 1, mostCurveB} {
			if c := curveOf(a, b); isLegalCurve(c) {
				list = append(list, c)
			}
		}
	}
	return list
}

// nearSingularCurves returns valid curves next to the ones for which 4 A^3 + 27 B^2 is 0.
func nearSingularCurves() []impl.Curve {
	var list []impl.Curve
	for k := -mostSingular; k <= mostSingular; k++ {
		for _, step := range [][2]int{{0, 1}, {0, -1}, {1, 0}, {-1, 0}} {
			if c := curveOf(-3*k*k+step[0], 2*k*k*k+step[1]); isLegalCurve(c) {
				list = append(list, c)
			}
		}
	}
	return list
}

// scaledCurves returns valid curves of which each one is another one scaled by a u greater than 1.
func scaledCurves() []impl.Curve {
	var list []impl.Curve
	for u := 2; u <= mostScale; u++ {
		for a := -70; a <= 70; a++ {
			for b := -160; b <= 160; b++ {
				if c := curveOf(a*u*u*u*u, b*u*u*u*u*u*u); isLegalCurve(c) {
					list = append(list, c)
				}
			}
		}
	}
	return list
}

// sampleCurves returns valid curves of all sizes.
func sampleCurves() []impl.Curve {
	list := slices.Concat(smallCurves(), endCurves(), nearSingularCurves())
	for i, c := range scaledCurves() {
		if i%7 == 0 || c.A == 0 || c.B == 0 {
			list = append(list, c)
		}
	}
	random := generator(9)
	for _, size := range []int{10, 100, mostCurveA} {
		for range 300 {
			a, b := random.below(2*size+1)-size, random.below(20*size+1)-10*size
			for _, c := range []impl.Curve{curveOf(a, b), curveOf(a, 0), curveOf(0, b)} {
				if isLegalCurve(c) {
					list = append(list, c)
				}
			}
		}
	}
	return list
}

// singularCurves returns all curves within the ranges for which 4 A^3 + 27 B^2 is 0.
func singularCurves() []impl.Curve {
	var list []impl.Curve
	for k := -mostSingular; k <= mostSingular; k++ {
		list = append(list, curveOf(-3*k*k, 2*k*k*k))
	}
	return list
}

// invalidCurves returns curves that break each one of the rules.
func invalidCurves() []impl.Curve {
	list := singularCurves()
	for _, n := range []int{mostCurveA + 1, mostCurveA + 2, 1 << 20, 1 << 21, 1 << 31, 1 << 32, 1<<32 + 1, 1 << 62, math.MaxInt - 1, math.MaxInt} {
		for _, m := range []int{n, -n, -n - 1} {
			list = append(list, curveOf(m, 0), curveOf(m, 1), curveOf(m, -1), curveOf(m, mostCurveB), curveOf(m, m))
		}
	}
	for _, n := range []int{mostCurveB + 1, mostCurveB + 2, 1 << 20, 1 << 31, 1 << 32, 1<<32 + 1, 1 << 62, math.MaxInt - 1, math.MaxInt} {
		for _, m := range []int{n, -n, -n - 1} {
			list = append(list, curveOf(0, m), curveOf(1, m), curveOf(-1, m), curveOf(mostCurveA, m), curveOf(m, -m))
		}
	}
	// Singular, too, but out of range.
	return append(list, curveOf(-3*18*18, 2*18*18*18), curveOf(-3*18*18, -2*18*18*18), curveOf(-30000, 2000000))
}

// checkCurve compares a result with the curve that it should be. What should fail has the zero curve.
func checkCurve(t *testing.T, got impl.Curve, ok bool, want impl.Curve, fine bool, what ...any) {
	t.Helper()
	if got != want || ok != fine {
		t.Errorf("%v: got %v, %v, want %v, %v", what, got, ok, want, fine)
	}
}

// checkBool compares a result with the one that it should be. What should fail has the result false.
func checkBool(t *testing.T, got bool, ok bool, want bool, fine bool, what ...any) {
	t.Helper()
	if got != want || ok != fine {
		t.Errorf("%v: got %v, %v, want %v, %v", what, got, ok, want, fine)
	}
}

// checkList compares a list with the one that it should be.
func checkList(t *testing.T, got []int, ok bool, want []int, what ...any) {
	t.Helper()
	if !slices.Equal(got, want) || !ok {
		t.Errorf("%v: got %v, %v, want %v", what, got, ok, want)
	}
}

// checkSmallest compares the smallest model of a curve and its u with the ones that they should be.
func checkSmallest(t *testing.T, c impl.Curve, want impl.Curve, u int) {
	t.Helper()
	got, gotU, ok := impl.SmallestModel(c)
	if got != want || gotU != u || !ok {
		t.Errorf("the smallest model of %v: got %v, %d, %v, want %v, %d", c, got, gotU, ok, want, u)
	}
}

// checkIsomorphic checks that two curves are isomorphic, or that they are not, both ways.
func checkIsomorphic(t *testing.T, a impl.Curve, b impl.Curve, want bool) {
	t.Helper()
	is, ok := impl.AreIsomorphic(a, b)
	checkBool(t, is, ok, want, true, a, "isomorphic to", b)
	is, ok = impl.AreIsomorphic(b, a)
	checkBool(t, is, ok, want, true, b, "isomorphic to", a)
}
