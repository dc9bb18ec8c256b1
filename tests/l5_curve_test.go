package tests

import (
	"fmt"
	"math"
	"math/big"
	"regexp"
	"slices"
	"strconv"
	"strings"
	"testing"

	"loop.example/g01004/impl"
)

func TestCurveExample(t *testing.T) {
	c := curveOf(-16, 16)
	d, ok := impl.DiscriminantOf(c)
	checkNumber(t, d, ok, 151552, true, "the discriminant of", c)
	n, ok := impl.RealParts(c)
	checkNumber(t, n, ok, 2, true, "the real parts of", c)
	is, ok := impl.IsIntegerPoint(c, 0, 4)
	checkBool(t, is, ok, true, true, "a point of", c)
	checkOrderTwo(t, curveOf(-1, 0), -1, 0, 1)
	checkInvariant(t, curveOf(-1, 0), 1728, 1)
}

func TestIsCurve(t *testing.T) {
	for _, c := range sampleCurves() {
		if !impl.IsCurve(c) {
			t.Error("valid", c)
		}
	}
	for _, c := range invalidCurves() {
		if impl.IsCurve(c) {
			t.Error("invalid", c)
		}
	}
	for _, ends := range [][2]int{{mostCurveA, mostCurveB}, {mostCurveA, 0}, {0, mostCurveB}, {1, 1}} {
		for _, sign := range [][2]int{{1, 1}, {1, -1}, {-1, 1}, {-1, -1}} {
			for step := -1; step <= 1; step++ {
				c := curveOf(sign[0]*(ends[0]+step), sign[1]*ends[1])
				if impl.IsCurve(c) != isLegalCurve(c) {
					t.Error(c)
				}
				c = curveOf(sign[0]*ends[0], sign[1]*(ends[1]+step))
				if impl.IsCurve(c) != isLegalCurve(c) {
					t.Error(c)
				}
			}
		}
	}
}

func TestOnlySingularCurvesWithinTheRangesAreInvalid(t *testing.T) {
	singular := singularCurves()
	for a := -mostCurveA; a <= mostCurveA; a++ {
		// Around the B for which 27 B^2 is -4 A^3, if there is one, and elsewhere.
		near := int(math.Sqrt(float64(max(0, -4*a*a*a)) / 27))
		for _, b := range []int{near - 1, near, near + 1, -near - 1, -near, 1 - near, a, -a, 100, -mostCurveB, mostCurveB} {
			c := curveOf(a, b)
			want := b >= -mostCurveB && b <= mostCurveB && !slices.Contains(singular, c)
			if impl.IsCurve(c) != want || want != isLegalCurve(c) {
				t.Error(c, "should be valid:", want)
			}
		}
	}
}

func TestDiscriminantsOfCurves(t *testing.T) {
	for _, c := range sampleCurves() {
		got, ok := impl.DiscriminantOf(c)
		checkNumber(t, got, ok, int(times(-16, coreOf(c)).Int64()), true, "the discriminant of", c)
	}
	for _, known := range []struct {
		curve impl.Curve
		want  int
	}{
		{curveOf(-1, 0), 64}, {curveOf(1, 0), -64}, {curveOf(0, 1), -432}, {curveOf(0, -1), -432}, {curveOf(-1, 1), -368}, {curveOf(-2, 1), 80},
		{curveOf(1000, 10000), -107200000000}, {curveOf(1000, -10000), -107200000000}, {curveOf(-1000, 10000), 20800000000}, {curveOf(-1000, 0), 64000000000},
		{curveOf(1000, 0), -64000000000}, {curveOf(0, 10000), -43200000000}, {curveOf(0, -10000), -43200000000}, {curveOf(-3, 1), 1296}, {curveOf(-3, 3), -2160},
	} {
		got, ok := impl.DiscriminantOf(known.curve)
		checkNumber(t, got, ok, known.want, true, "the discriminant of", known.curve)
	}
}

// checkInvariant compares the invariant of a curve with the one that it should be.
func checkInvariant(t *testing.T, c impl.Curve, num int, den int) {
	t.Helper()
	gotNum, gotDen, ok := impl.InvariantOf(c)
	if gotNum != num || gotDen != den || !ok {
		t.Errorf("the invariant of %v: got %d, %d, %v, want %d, %d", c, gotNum, gotDen, ok, num, den)
	}
}

func TestInvariants(t *testing.T) {
	for _, c := range sampleCurves() {
		want := invariantOf(c)
		checkInvariant(t, c, int(want.Num().Int64()), int(want.Denom().Int64()))
	}
	for _, known := range []struct {
		curve    impl.Curve
		num, den int
	}{
		{curveOf(0, 1), 0, 1}, {curveOf(0, -1), 0, 1}, {curveOf(0, 10000), 0, 1}, {curveOf(0, -10000), 0, 1}, {curveOf(0, 2), 0, 1},
		{curveOf(1, 0), 1728, 1}, {curveOf(-1000, 0), 1728, 1}, {curveOf(1000, 0), 1728, 1}, {curveOf(7, 0), 1728, 1},
		{curveOf(1, 1), 6912, 31}, {curveOf(-1, 1), -6912, 23}, {curveOf(-2, 1), 55296, 5}, {curveOf(-3, 3), -6912, 5}, {curveOf(-3, 1), 2304, 1},
		{curveOf(-15, 22), 54000, 1}, {curveOf(-35, 98), -3375, 1}, {curveOf(-595, 5586), 16581375, 1}, {curveOf(-16, 16), 110592, 37},
		{curveOf(1000, 10000), 69120, 67}, {curveOf(-1000, 10000), 69120, 13}, {curveOf(1000, 1), 6912000000000, 4000000027}, {curveOf(-1000, 1), 6912000000000, 3999999973},
	} {
		checkInvariant(t, known.curve, known.num, known.den)
	}
}

func TestScaledCurves(t *testing.T) {
	for _, c := range sampleCurves() {
		for u := 1; u <= mostScale; u++ {
			want := curveOf(c.A*u*u*u*u, c.B*u*u*u*u*u*u)
			fine := isLegalCurve(want)
			if !fine {
				want = impl.Curve{}
			}
			got, ok := impl.ScaleCurve(c, u)
			checkCurve(t, got, ok, want, fine, c, "scaled by", u)
		}
	}
}

func TestScalesOutOfRangeFail(t *testing.T) {
	scales := []int{0, -1, -2, -5, mostScale + 1, 7, 10, 1 << 11, 1 << 16, 1 << 32, 1 << 62, math.MaxInt, math.MinInt, math.MinInt + 1}
	for _, c := range sampleCurves() {
		for _, u := range scales {
			got, ok := impl.ScaleCurve(c, u)
			checkCurve(t, got, ok, impl.Curve{}, false, c, "scaled by", u)
		}
	}
}

func TestSpecialScales(t *testing.T) {
	for _, known := range []struct {
		curve impl.Curve
		u     int
		want  impl.Curve
	}{
		{curveOf(-16, 16), 1, curveOf(-16, 16)}, {curveOf(-16, 16), 2, curveOf(-256, 1024)}, {curveOf(-1, 0), 5, curveOf(-625, 0)}, {curveOf(1, 0), 5, curveOf(625, 0)},
		{curveOf(mostCurveA, -mostCurveB), 1, curveOf(mostCurveA, -mostCurveB)}, {curveOf(62, 156), 2, curveOf(992, 9984)}, {curveOf(-62, -156), 2, curveOf(-992, -9984)},
		{curveOf(0, 2), 4, curveOf(0, 8192)}, {curveOf(3, -2), 4, curveOf(768, -8192)}, {curveOf(12, 13), 3, curveOf(972, 9477)},
		// Only A passes its range, or only B, or both.
		{curveOf(63, 1), 2, impl.Curve{}}, {curveOf(-63, 1), 2, impl.Curve{}}, {curveOf(2, 0), 5, impl.Curve{}}, {curveOf(-2, 0), 5, impl.Curve{}}, {curveOf(13, 1), 3, impl.Curve{}},
		{curveOf(1, 157), 2, impl.Curve{}}, {curveOf(1, -157), 2, impl.Curve{}}, {curveOf(0, 1), 5, impl.Curve{}}, {curveOf(0, -1), 5, impl.Curve{}}, {curveOf(0, 3), 4, impl.Curve{}}, {curveOf(1, 14), 3, impl.Curve{}},
		{curveOf(63, 157), 2, impl.Curve{}}, {curveOf(mostCurveA, mostCurveB), 5, impl.Curve{}}, {curveOf(-mostCurveA, -mostCurveB), 2, impl.Curve{}},
	} {
		got, ok := impl.ScaleCurve(known.curve, known.u)
		checkCurve(t, got, ok, known.want, known.want != impl.Curve{}, known.curve, "scaled by", known.u)
	}
}

func TestScaledCurvesAreIsomorphicWithTheSameInvariant(t *testing.T) {
	for _, c := range sampleCurves() {
		num, den, ok := impl.InvariantOf(c)
		if !ok {
			t.Error("no invariant", c)
		}
		small, u, _ := impl.SmallestModel(c)
		for by := 1; by <= mostScale; by++ {
			scaled, ok := impl.ScaleCurve(c, by)
			if !ok {
				continue
			}
			checkInvariant(t, scaled, num, den)
			checkIsomorphic(t, c, scaled, true)
			checkSmallest(t, scaled, small, u*by)
		}
	}
}

func TestSmallestModels(t *testing.T) {
	for _, c := range sampleCurves() {
		want, u := smallestOf(c)
		checkSmallest(t, c, want, u)
		checkSmallest(t, want, want, 1)
		back, ok := impl.ScaleCurve(want, u)
		checkCurve(t, back, ok, c, true, "the smallest model of", c, "scaled back")
		checkIsomorphic(t, c, want, true)
	}
}

func TestSmallestModelsOnTheAxes(t *testing.T) {
	for a := -mostCurveA; a <= mostCurveA; a++ {
		if a != 0 {
			want, u := smallestOf(curveOf(a, 0))
			checkSmallest(t, curveOf(a, 0), want, u)
		}
	}
	for b := -mostCurveB; b <= mostCurveB; b++ {
		if b != 0 {
			want, u := smallestOf(curveOf(0, b))
			checkSmallest(t, curveOf(0, b), want, u)
		}
	}
}

func TestSpecialSmallestModels(t *testing.T) {
	for _, known := range []struct {
		curve impl.Curve
		want  impl.Curve
		u     int
	}{
		{curveOf(-16, 16), curveOf(-16, 16), 1}, {curveOf(-256, 1024), curveOf(-16, 16), 2}, {curveOf(-16, 64), curveOf(-1, 1), 2}, {curveOf(81, 729), curveOf(1, 1), 3},
		{curveOf(-256, 4096), curveOf(-1, 1), 4}, {curveOf(256, -8192), curveOf(1, -2), 4}, {curveOf(256, 64), curveOf(16, 1), 2}, {curveOf(16, 4096), curveOf(1, 64), 2},
		{curveOf(625, 0), curveOf(1, 0), 5}, {curveOf(-625, 0), curveOf(-1, 0), 5}, {curveOf(256, 0), curveOf(1, 0), 4}, {curveOf(81, 0), curveOf(1, 0), 3}, {curveOf(-16, 0), curveOf(-1, 0), 2}, {curveOf(8, 0), curveOf(8, 0), 1},
		{curveOf(1000, 0), curveOf(1000, 0), 1}, {curveOf(-1000, 0), curveOf(-1000, 0), 1}, {curveOf(768, 0), curveOf(3, 0), 4}, {curveOf(624, 0), curveOf(39, 0), 2},
		{curveOf(0, 4096), curveOf(0, 1), 4}, {curveOf(0, -4096), curveOf(0, -1), 4}, {curveOf(0, 8192), curveOf(0, 2), 4}, {curveOf(0, 729), curveOf(0, 1), 3}, {curveOf(0, -9477), curveOf(0, -13), 3}, {curveOf(0, 64), curveOf(0, 1), 2},
		{curveOf(0, 32), curveOf(0, 32), 1}, {curveOf(0, 10000), curveOf(0, 10000), 1}, {curveOf(0, 16), curveOf(0, 16), 1}, {curveOf(0, 9984), curveOf(0, 156), 2},
		// Only one of both coefficients can be divided.
		{curveOf(16, 32), curveOf(16, 32), 1}, {curveOf(8, 64), curveOf(8, 64), 1}, {curveOf(625, 3125), curveOf(625, 3125), 1}, {curveOf(81, 243), curveOf(81, 243), 1}, {curveOf(-27, 729), curveOf(-27, 729), 1}, {curveOf(16, 729), curveOf(16, 729), 1},
		{curveOf(mostCurveA, mostCurveB), curveOf(mostCurveA, mostCurveB), 1}, {curveOf(992, -9984), curveOf(62, -156), 2},
	} {
		checkSmallest(t, known.curve, known.want, known.u)
	}
}

func TestIsomorphicCurves(t *testing.T) {
	list := slices.Concat(smallCurves(), endCurves())
	for i, c := range scaledCurves() {
		if i%97 == 0 || c.A == 0 && i%3 == 0 || c.B == 0 {
			list = append(list, c)
		}
	}
	small := make([]impl.Curve, len(list))
	for i, c := range list {
		small[i], _ = smallestOf(c)
	}
	for i, a := range list {
		for k := i % 3; k < len(list); k += 3 {
			is, ok := impl.AreIsomorphic(a, list[k])
			checkBool(t, is, ok, small[i] == small[k], true, a, "isomorphic to", list[k])
		}
	}
}

func TestSpecialIsomorphicCurves(t *testing.T) {
	for _, c := range sampleCurves() {
		checkIsomorphic(t, c, c, true)
		if c.B != 0 {
			checkIsomorphic(t, c, curveOf(c.A, -c.B), false)
		}
		if opposite := curveOf(-c.A, c.B); c.A != 0 && isLegalCurve(opposite) {
			checkIsomorphic(t, c, opposite, false)
		}
	}
	checkIsomorphic(t, curveOf(-16, 16), curveOf(-256, 1024), true)
	// Two models of which none is the other one scaled.
	checkIsomorphic(t, curveOf(-16, 64), curveOf(-81, 729), true)
	checkIsomorphic(t, curveOf(16, 0), curveOf(625, 0), true)
	checkIsomorphic(t, curveOf(0, -729), curveOf(0, -4096), true)
	// The same invariant alone is not enough.
	checkIsomorphic(t, curveOf(1, 0), curveOf(2, 0), false)
	checkIsomorphic(t, curveOf(1, 0), curveOf(4, 0), false)
	checkIsomorphic(t, curveOf(1, 0), curveOf(-4, 0), false)
	checkIsomorphic(t, curveOf(0, 1), curveOf(0, 8), false)
	checkIsomorphic(t, curveOf(0, 1), curveOf(0, -27), false)
	checkIsomorphic(t, curveOf(-1, 1), curveOf(-4, 8), false)
	checkIsomorphic(t, curveOf(-16, 64), curveOf(-16, -64), false)
	checkIsomorphic(t, curveOf(0, 1), curveOf(1, 0), false)
	// Scaled by different numbers.
	checkIsomorphic(t, curveOf(1, 1), curveOf(16, 729), false)
	checkIsomorphic(t, curveOf(1, 1), curveOf(16, 1), false)
}

func TestIntegerPoints(t *testing.T) {
	for i, c := range sampleCurves() {
		for x := -40; x <= 40; x++ {
			value := rightSide(c, x)
			places := []int{0, 1, -1, x, int(value.Int64())}
			if value.Sign() >= 0 {
				root := int(new(big.Int).Sqrt(value).Int64())
				places = append(places, root, -root, root+1, -root-1)
			}
			if i%5 > 0 {
				places = places[1:]
			}
			for _, y := range places {
				if y < -mostCoordinate || y > mostCoordinate {
					continue
				}
				is, ok := impl.IsIntegerPoint(c, x, y)
				checkBool(t, is, ok, power(y, 2).Cmp(value) == 0, true, c, "at", x, y)
			}
		}
	}
}

func TestSpecialIntegerPoints(t *testing.T) {
	for _, known := range []struct {
		curve impl.Curve
		x, y  int
		is    bool
	}{
		{curveOf(-16, 16), 0, 4, true}, {curveOf(-16, 16), 0, -4, true}, {curveOf(-16, 16), 4, 4, true}, {curveOf(-16, 16), -4, -4, true}, {curveOf(-16, 16), 8, 20, true}, {curveOf(-16, 16), 24, 116, true}, {curveOf(-16, 16), 0, 0, false}, {curveOf(-16, 16), 4, 0, false},
		{curveOf(0, 1), 2, 3, true}, {curveOf(0, 1), 2, -3, true}, {curveOf(0, 1), -1, 0, true}, {curveOf(0, 1), -1, 1, false}, {curveOf(0, 1), -2, 3, false}, {curveOf(0, 17), 5234, 378661, true}, {curveOf(0, 17), 5234, -378661, true}, {curveOf(0, 17), 5234, 378660, false},
		{curveOf(-1, 0), 0, 0, true}, {curveOf(-1, 0), 1, 0, true}, {curveOf(-25, 0), -4, 6, true}, {curveOf(-25, 0), 4, 6, false}, {curveOf(0, -2), 3, 5, true},
		// Both ends of the ranges of x and y: (10^4)^3 is (10^6)^2.
		{curveOf(1, -mostCurveB), 10000, mostCoordinate, true}, {curveOf(-1, mostCurveB), 10000, mostCoordinate, true}, {curveOf(-1, mostCurveB), 10000, -mostCoordinate, true}, {curveOf(-1, mostCurveB), 10000, mostCoordinate - 1, false}, {curveOf(1, mostCurveB), 10000, mostCoordinate, false}, {curveOf(-200, 1), 10000, mostCoordinate - 1, true},
		{curveOf(1, 1), mostCoordinate, mostCoordinate, false}, {curveOf(1, 1), mostCoordinate, -mostCoordinate, false}, {curveOf(1, 1), -mostCoordinate, mostCoordinate, false}, {curveOf(-mostCurveA, mostCurveB), -mostCoordinate, 0, false}, {curveOf(mostCurveA, mostCurveB), mostCoordinate, 0, false}, {curveOf(0, 0), 0, 0, false},
	} {
		is, ok := impl.IsIntegerPoint(known.curve, known.x, known.y)
		checkBool(t, is, ok, known.is, known.curve != impl.Curve{}, known.curve, "at", known.x, known.y)
	}
}

func TestPlacesOutOfRangeAreNoResults(t *testing.T) {
	beyond := []int{mostCoordinate + 1, -mostCoordinate - 1, 1 << 21, 1 << 22, -1 << 22, 1 << 32, 1<<32 + 4, 1 << 62, math.MaxInt, math.MinInt, math.MinInt + 1}
	for _, c := range sampleCurves() {
		for _, n := range beyond {
			for _, m := range []int{0, 4, -4, mostCoordinate, -mostCoordinate, n} {
				is, ok := impl.IsIntegerPoint(c, n, m)
				checkBool(t, is, ok, false, false, c, "at", n, m)
				is, ok = impl.IsIntegerPoint(c, m, n)
				checkBool(t, is, ok, false, false, c, "at", m, n)
			}
		}
	}
	// These fulfil the equation: the first ones with a y outside of the range, the others only modulo 2 to the power 64.
	for _, known := range []struct {
		curve impl.Curve
		x, y  int
	}{
		{curveOf(200, 1), 10000, mostCoordinate + 1}, {curveOf(200, 1), 10000, -mostCoordinate - 1}, {curveOf(400, 1), 40000, 8000001},
		{curveOf(4, 0), 1 << 22, 1 << 12}, {curveOf(4, 0), 0, 1 << 32}, {curveOf(0, 4), 1 << 22, 2}, {curveOf(0, 4), 0, math.MinInt + 2}, {curveOf(-16, 16), 0, math.MaxInt - 3},
	} {
		is, ok := impl.IsIntegerPoint(known.curve, known.x, known.y)
		checkBool(t, is, ok, false, false, known.curve, "at", known.x, known.y)
	}
}

// checkOrderTwo compares the places of the points of order two with the ones that they should be.
func checkOrderTwo(t *testing.T, c impl.Curve, want ...int) {
	t.Helper()
	got, ok := impl.OrderTwoAt(c)
	checkList(t, got, ok, want, "the points of order two of", c)
}

func TestOrderTwoAt(t *testing.T) {
	for _, c := range sampleCurves() {
		var want []int
		for x := -farthestCurveAt; x <= farthestCurveAt; x++ {
			if x*x*x+c.A*x+c.B == 0 {
				want = append(want, x)
			}
		}
		checkOrderTwo(t, c, want...)
	}
}

func TestAllPairsOfRoots(t *testing.T) {
	seen := 0
	for r := -farthestCurveAt; r <= farthestCurveAt; r++ {
		for s := r; s <= farthestCurveAt; s++ {
			c := curveOf(r*s-(r+s)*(r+s), r*s*(r+s))
			if !isLegalCurve(c) {
				continue
			}
			seen++
			want := []int{r, s, -r - s}
			slices.Sort(want)
			checkOrderTwo(t, c, want...)
			for _, x := range want {
				is, ok := impl.IsIntegerPoint(c, x, 0)
				checkBool(t, is, ok, true, true, c, "at", x)
			}
		}
	}
	if seen < 100 {
		t.Error("too few curves with three roots", seen)
	}
}

func TestSpecialOrderTwo(t *testing.T) {
	for _, c := range []impl.Curve{curveOf(-16, 16), curveOf(0, 2), curveOf(0, -10000), curveOf(1, 1), curveOf(-3, 1), curveOf(1000, 9999), curveOf(-1000, 1)} {
		checkOrderTwo(t, c)
	}
	checkOrderTwo(t, curveOf(1, 0), 0)
	checkOrderTwo(t, curveOf(-2, 0), 0)
	checkOrderTwo(t, curveOf(1000, 0), 0)
	checkOrderTwo(t, curveOf(-1000, 0), 0)
	checkOrderTwo(t, curveOf(0, 1), -1)
	checkOrderTwo(t, curveOf(0, -1), 1)
	checkOrderTwo(t, curveOf(0, 8), -2)
	checkOrderTwo(t, curveOf(0, 9261), -21)
	checkOrderTwo(t, curveOf(0, -9261), 21)
	checkOrderTwo(t, curveOf(-961, 0), -31, 0, 31)
	checkOrderTwo(t, curveOf(-7, 6), -3, 1, 2)
	checkOrderTwo(t, curveOf(-7, -6), -2, -1, 3)
	checkOrderTwo(t, curveOf(-1, 6), -2)
	// The roots that are as far from 0 as they can be.
	checkOrderTwo(t, curveOf(-1000, -7875), 35)
	checkOrderTwo(t, curveOf(-1000, 7875), -35)
	checkOrderTwo(t, curveOf(-991, -8190), -26, -9, 35)
	checkOrderTwo(t, curveOf(-991, 8190), -35, 9, 26)
	checkOrderTwo(t, curveOf(-867, 9825))
	checkOrderTwo(t, curveOf(-868, 9792), -34, 16, 18)
	checkOrderTwo(t, curveOf(1000, 10000))
	checkOrderTwo(t, curveOf(900, 10000), -10)
	checkOrderTwo(t, curveOf(900, -10000), 10)
}

// realRootsOf counts the real roots of x^3 + A x + B, by Sturm's theorem.
func realRootsOf(c impl.Curve) int {
	return rootsBetween(cubicOf(1, 0, c.A, c.B), ratio(-20001, 1), ratio(20001, 1))
}

func TestRealParts(t *testing.T) {
	for _, c := range sampleCurves() {
		want := 1
		if realRootsOf(c) == 3 {
			want = 2
		}
		got, ok := impl.RealParts(c)
		checkNumber(t, got, ok, want, true, "the real parts of", c)
	}
	for _, known := range []struct {
		curve impl.Curve
		want  int
	}{
		{curveOf(-16, 16), 2}, {curveOf(-1, 0), 2}, {curveOf(1, 0), 1}, {curveOf(0, 1), 1}, {curveOf(0, -1), 1}, {curveOf(-3, 1), 2}, {curveOf(-3, -1), 2}, {curveOf(-3, 3), 1}, {curveOf(-3, -3), 1},
		{curveOf(-1000, 10000), 2}, {curveOf(-1000, -10000), 2}, {curveOf(1000, 10000), 1}, {curveOf(1000, -10000), 1}, {curveOf(-867, 9825), 2}, {curveOf(-867, 9827), 1}, {curveOf(-867, -9825), 2}, {curveOf(-867, -9827), 1}, {curveOf(-866, 9826), 1}, {curveOf(-868, 9826), 2},
	} {
		got, ok := impl.RealParts(known.curve)
		checkNumber(t, got, ok, known.want, true, "the real parts of", known.curve)
	}
}

func TestBadPrimes(t *testing.T) {
	for i, c := range sampleCurves() {
		if i%8 == 0 || c.A == 0 || c.B == 0 {
			checkBadPrimes(t, c)
		}
	}
}

// checkBadPrimes checks that the bad primes are 2 and the primes whose powers make up 4 A^3 + 27 B^2.
func checkBadPrimes(t *testing.T, c impl.Curve) {
	t.Helper()
	primes, ok := impl.BadPrimes(c)
	if !ok || len(primes) == 0 || primes[0] != 2 {
		t.Errorf("the bad primes of %v: got %v, %v", c, primes, ok)
		return
	}
	left := new(big.Int).Abs(coreOf(c))
	for i, p := range primes {
		divided := false
		for quotient, rest := new(big.Int).QuoRem(left, big.NewInt(int64(p)), new(big.Int)); rest.Sign() == 0; {
			left.Set(quotient)
			quotient.QuoRem(left, big.NewInt(int64(p)), rest)
			divided = true
		}
		if !isPrime(p) || p > 2 && !divided || i > 0 && p <= primes[i-1] {
			t.Errorf("the bad primes of %v: got %v", c, primes)
		}
	}
	if left.Cmp(big.NewInt(1)) != 0 {
		t.Errorf("the bad primes of %v: got %v, %v is left", c, primes, left)
	}
}

func TestSpecialBadPrimes(t *testing.T) {
	for _, known := range []struct {
		curve impl.Curve
		want  []int
	}{
		{curveOf(-16, 16), []int{2, 37}}, {curveOf(-1, 0), []int{2}}, {curveOf(1, 0), []int{2}}, {curveOf(-256, 0), []int{2}}, {curveOf(0, 1), []int{2, 3}}, {curveOf(0, -1), []int{2, 3}}, {curveOf(0, 2), []int{2, 3}}, {curveOf(-3, 1), []int{2, 3}},
		{curveOf(3, 0), []int{2, 3}}, {curveOf(-1, 1), []int{2, 23}}, {curveOf(1, 1), []int{2, 31}}, {curveOf(-2, 1), []int{2, 5}}, {curveOf(-7, 6), []int{2, 5}}, {curveOf(0, 35), []int{2, 3, 5, 7}}, {curveOf(-1, 2), []int{2, 13}},
		{curveOf(997, 0), []int{2, 997}}, {curveOf(0, 9973), []int{2, 3, 9973}}, {curveOf(1000, 10000), []int{2, 5, 67}}, {curveOf(-1000, 10000), []int{2, 5, 13}}, {curveOf(0, 10000), []int{2, 3, 5}},
	} {
		got, ok := impl.BadPrimes(known.curve)
		checkList(t, got, ok, known.want, "the bad primes of", known.curve)
	}
	for _, c := range endCurves() {
		checkBadPrimes(t, c)
	}
}

func TestGreatBadPrimes(t *testing.T) {
	greatest := 0
	for b := mostCurveB; b > mostCurveB-100; b-- {
		c := curveOf(mostCurveA, b)
		checkBadPrimes(t, c)
		if core := int(coreOf(c).Int64()); isPrime(core) {
			got, ok := impl.BadPrimes(c)
			checkList(t, got, ok, []int{2, core}, "the bad primes of", c)
			greatest = max(greatest, core)
		}
	}
	if greatest < 6000000000 {
		t.Error("no great prime was tested", greatest)
	}
}

func TestCurveTexts(t *testing.T) {
	for _, c := range sampleCurves() {
		want := fmt.Sprintf("%d %d", c.A, c.B)
		if got, ok := impl.CurveText(c); got != want || !ok {
			t.Errorf("the text of %v: got %q, %v", c, got, ok)
		}
		back, ok := impl.ParseCurve(want)
		checkCurve(t, back, ok, c, true, want)
	}
	for text, c := range map[string]impl.Curve{
		"-16 16": curveOf(-16, 16), "-1 0": curveOf(-1, 0), "0 1": curveOf(0, 1), "0 -1": curveOf(0, -1), "1000 -10000": curveOf(1000, -10000), "-1000 10000": curveOf(-1000, 10000), "10 100": curveOf(10, 100),
	} {
		if got, ok := impl.CurveText(c); got != text || !ok {
			t.Errorf("the text of %v: got %q, %v", c, got, ok)
		}
		back, ok := impl.ParseCurve(text)
		checkCurve(t, back, ok, c, true, text)
	}
}

func TestTextsThatAreNoCurves(t *testing.T) {
	wrapped := strconv.FormatUint(math.MaxUint64, 10)
	texts := []string{
		"", " ", "  ", "-", "- -", "--", "+", "1", "-1", "16", "-16", "1 ", " 1", "-1 ", " -1", "1 -", "- 1", "-16 16 ", " -16 16", "-16  16", "-16 16 0", "-16 16 16", " -16  16 ", "-16\t16", "-16\n16", "-16 16\n", "\n-16 16", "-16\u00a016", "-16\u200316", "-16,16", "-16/16", "-16;16", "-1616",
		"01 1", "1 01", "-01 1", "1 -01", "00 1", "1 00", "-016 16", "-16 016", "-16 0016", "0001 1", "+1 1", "1 +1", "+1 +1", "-16 +16", "+0 1", "1 +0", "-0 1", "1 -0", "-0 -1", "-1 -0", "-0 -0", "--1 1", "1 --1", "-+1 1", "1- 1", "1 1-", "- 1 1", "1 - 1",
		"0 0", "-3 2", "-3 -2", "-12 16", "-12 -16", "-27 54", "-867 9826", "-867 -9826", "-300 2000", "-972 11664",
		"1001 1", "-1001 1", "1 10001", "1 -10001", "1001 10001", "0 10001", "1001 0", "1000 10001", "1001 10000", "10000 1", "1 100000", "9999999999 1", "1 9999999999",
		"18446744073709551617 1", "1 18446744073709551617", "18446744073709551615 1", "18446744073709551600 16", "-18446744073709551617 1", "1 18446744073709551616", wrapped + " " + wrapped, "9223372036854775808 1", "-9223372036854775808 1", "1 -9223372036854775808", "1 9223372036854775807",
		"a 1", "1 a", "a", "1a 1", "1 1a", "1.0 1", "1 1.0", "1e2 1", "1 1e2", "0x1 1", "1 0x1", "1_0 1", "1 1_0", "1\x00 1", "1 1\x00", "\x00", "1 : ", ": 1", "1 :", "1 ;", "/ 1", "1 /",
		"\u0661 1", "1 \u0661", "\uff11 1", "1 \uff11", "\u22121 1", "1 \u22121", "\xff 1", "1 \xff", "1\xff 1", "1 1\xff", "\U00010031 1",
		strings.Repeat("0", 1000) + "1 1", "1 " + strings.Repeat("1", 100000), strings.Repeat("-", 1000) + "1 1", "1" + strings.Repeat(" ", 1000) + "1", strings.Repeat("1 ", 1000) + "1", "nil nil", "O", "(1,1)", "{-16 16}", "-16 16;",
	}
	for _, s := range texts {
		if c, ok := impl.ParseCurve(s); c != (impl.Curve{}) || ok {
			t.Errorf("%.40q: %v, %v", s, c, ok)
		}
	}
	for _, c := range invalidCurves() {
		got, ok := impl.ParseCurve(fmt.Sprintf("%d %d", c.A, c.B))
		checkCurve(t, got, ok, impl.Curve{}, false, "the text of", c)
	}
}

// curveTextPattern matches two numbers in decimal, separated by a blank.
var curveTextPattern = regexp.MustCompile(`^(0|-?[1-9][0-9]*) (0|-?[1-9][0-9]*)\z`)

// isCurveText reports whether a short text is the one of a curve, by the pattern.
func isCurveText(s string) bool {
	found := curveTextPattern.FindStringSubmatch(s)
	if found == nil {
		return false
	}
	a, errA := strconv.Atoi(found[1])
	b, errB := strconv.Atoi(found[2])
	return errA == nil && errB == nil && isLegalCurve(curveOf(a, b))
}

// checkCurveText checks that a text is read, and written again like that, just if it is the text of a curve.
func checkCurveText(t *testing.T, s string) {
	t.Helper()
	c, ok := impl.ParseCurve(s)
	if ok != isCurveText(s) || !ok && c != (impl.Curve{}) {
		t.Errorf("%q: %v, %v", s, c, ok)
	}
	if text, fine := impl.CurveText(c); ok && (text != s || !fine) {
		t.Errorf("%q is read as %v with the text %q", s, c, text)
	}
}

func TestAllShortCurveTexts(t *testing.T) {
	letters := "- 01239+/:"
	var check func(s string, more int)
	check = func(s string, more int) {
		checkCurveText(t, s)
		if more > 0 {
			for i := range len(letters) {
				check(s+letters[i:i+1], more-1)
			}
		}
	}
	check("", 5)
}

func TestEveryByteInCurveText(t *testing.T) {
	for b := range 256 {
		c := string([]byte{byte(b)})
		for _, s := range []string{c, c + "1 1", "1" + c + "1", "1" + c + " 1", "1 " + c + "1", "1 1" + c, c + " 1", "1 " + c, "-" + c + " 2", "-16" + c + "16", "1 1" + c + "1"} {
			checkCurveText(t, s)
		}
	}
}

func TestCurveTextsAtTheEndsOfTheRanges(t *testing.T) {
	for _, a := range []int{-1002, -1001, -1000, -999, -1, 0, 1, 999, 1000, 1001, 1002} {
		for _, b := range []int{-10002, -10001, -10000, -9999, -1, 0, 1, 9999, 10000, 10001, 10002} {
			checkCurveText(t, fmt.Sprintf("%d %d", a, b))
		}
	}
}
