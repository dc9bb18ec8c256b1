package tests

import (
	"math"
	"math/big"
	"slices"
	"sync"
	"testing"

	"loop.example/g01004/impl"
)

// The limits that the document names.
const (
	mostX        = 10000
	mostE        = 20
	mostMultiple = 12
)

// pointOf names a point shortly.
func pointOf(x int, y int, e int) impl.Point {
	return impl.Point{X: x, Y: y, E: e}
}

// infinity is the point at infinity.
var infinity = impl.Point{}

// minus returns the point with -Y.
func minus(p impl.Point) impl.Point {
	return pointOf(p.X, -p.Y, p.E)
}

// fulfils reports whether X, Y and E fulfil the equation, whatever their ranges are.
func fulfils(c impl.Curve, p impl.Point) bool {
	right := new(big.Int).Mul(big.NewInt(int64(c.A)), times(p.X, power(p.E, 4)))
	right.Add(right, times(c.B, power(p.E, 6)))
	return power(p.Y, 2).Cmp(right.Add(right, power(p.X, 3))) == 0
}

// isLegalPoint reports by the document's definition alone whether a curve is valid and a point is one of it.
func isLegalPoint(c impl.Curve, p impl.Point) bool {
	if !isLegalCurve(c) || p == infinity {
		return isLegalCurve(c)
	}
	if p.X < -mostX || p.X > mostX || p.E < 1 || p.E > mostE {
		return false
	}
	divisor := new(big.Int).GCD(nil, nil, big.NewInt(int64(p.X)), big.NewInt(int64(p.E)))
	return divisor.Cmp(big.NewInt(1)) == 0 && fulfils(c, p)
}

// ratPoint is a point of a curve without limits of its coordinates. Infinity has none.
type ratPoint struct {
	x *big.Rat
	y *big.Rat
}

// exact returns a point without limits.
func exact(p impl.Point) ratPoint {
	if p == infinity {
		return ratPoint{}
	}
	return ratPoint{ratio(p.X, p.E*p.E), ratio(p.Y, p.E*p.E*p.E)}
}

// bounded returns the point within the limits. It fails if there is none.
func (p ratPoint) bounded() (impl.Point, bool) {
	if p.x == nil {
		return infinity, true
	}
	e := new(big.Int).Sqrt(p.x.Denom())
	if e.Cmp(big.NewInt(mostE)) > 0 || p.x.Num().CmpAbs(big.NewInt(mostX)) > 0 {
		return infinity, false
	}
	y := new(big.Rat).Mul(p.y, new(big.Rat).SetInt(power(int(e.Int64()), 3)))
	return pointOf(int(p.x.Num().Int64()), int(y.Num().Int64()), int(e.Int64())), true
}

// slope returns the slope of the line through both points, or of the tangent. It is nil if there is none.
func (p ratPoint) slope(c impl.Curve, q ratPoint) *big.Rat {
	if p.x == nil || q.x == nil {
		return nil
	}
	rise, run := new(big.Rat).Sub(q.y, p.y), new(big.Rat).Sub(q.x, p.x)
	if rise.Sign() == 0 && run.Sign() == 0 {
		rise.Mul(p.x, p.x)
		rise.Mul(rise, ratio(3, 1)).Add(rise, ratio(c.A, 1))
		run.Add(p.y, p.y)
	}
	if run.Sign() == 0 {
		return nil
	}
	return rise.Quo(rise, run)
}

// plus returns the sum of both points.
func (p ratPoint) plus(c impl.Curve, q ratPoint) ratPoint {
	slope := p.slope(c, q)
	switch {
	case p.x == nil:
		return q
	case q.x == nil:
		return p
	case slope == nil:
		return ratPoint{}
	}
	x := new(big.Rat).Mul(slope, slope)
	x.Sub(x, p.x).Sub(x, q.x)
	y := new(big.Rat).Sub(p.x, x)
	return ratPoint{x, y.Mul(y, slope).Sub(y, p.y)}
}

// sumOf returns the sum that two points should have. It fails if there is none.
func sumOf(c impl.Curve, p impl.Point, q impl.Point) (impl.Point, bool) {
	return exact(p).plus(c, exact(q)).bounded()
}

// multiplesOf returns the multiples for 1, 2, .., at most n of them, before the first one that is no point.
func multiplesOf(c impl.Curve, p impl.Point, n int) []impl.Point {
	var list []impl.Point
	sum := ratPoint{}
	for range n {
		sum = sum.plus(c, exact(p))
		multiple, ok := sum.bounded()
		if !ok {
			break
		}
		list = append(list, multiple)
	}
	return list
}

// pointsOn returns all points of a curve, by plain enumeration: infinity first, then by increasing E and X, the one with a negative Y before the opposite one.
func pointsOn(c impl.Curve) []impl.Point {
	list := []impl.Point{infinity}
	for e := 1; e <= mostE; e++ {
		for x := -mostX; x <= mostX; x++ {
			square := x*x*x + c.A*x*e*e*e*e + c.B*e*e*e*e*e*e
			y := int(math.Sqrt(math.Max(0, float64(square))))
			if y*y != square || !isLegalPoint(c, pointOf(x, y, e)) {
				continue
			}
			if y > 0 {
				list = append(list, pointOf(x, -y, e))
			}
			list = append(list, pointOf(x, y, e))
		}
	}
	return list
}

// pointedCurve is a curve with all of its points.
type pointedCurve struct {
	curve  impl.Curve
	points []impl.Point
}

// pointedCurves returns curves with points of all kinds: of all orders, at the ends of the ranges of X and E, few and many, those of the end curves among them.
var pointedCurves = sync.OnceValue(func() []pointedCurve {
	list := []impl.Curve{
		curveOf(-16, 16), curveOf(0, 1), curveOf(-1, 0), curveOf(1, 0), curveOf(0, 2), curveOf(0, 17), curveOf(-25, 0), curveOf(4, 0), curveOf(0, 4), curveOf(-1, 1),
		curveOf(3, -11), curveOf(0, -432), curveOf(1, 2), curveOf(-432, 8208), curveOf(0, 64), curveOf(-43, 166), curveOf(-219, 1654), curveOf(-7, 6), curveOf(-7, 10),
		curveOf(-4, 4), curveOf(-12, 20), curveOf(-3, 5326), curveOf(-57, 2081), curveOf(-977, 7764), curveOf(49, -10000), curveOf(-9, 10000), curveOf(-291, 9430),
		curveOf(262, -4647), curveOf(-3, 5303), curveOf(-916, -9761), curveOf(0, 561), curveOf(4, 441), curveOf(-1, 2500), curveOf(4, 6816), curveOf(-82, 0), curveOf(-301, 2020),
	}
	list = append(list, endCurves()...)
	var pointed []pointedCurve
	for _, c := range list {
		pointed = append(pointed, pointedCurve{c, pointsOn(c)})
	}
	return pointed
})

// pairs ranges over all pairs of points.
func (c pointedCurve) pairs(yield func(p impl.Point, q impl.Point) bool) {
	for _, p := range c.points {
		for _, q := range c.points {
			if !yield(p, q) {
				return
			}
		}
	}
}

// knownPoint is a point of a curve, or one that is none.
type knownPoint struct {
	curve impl.Curve
	point impl.Point
}

// pointsAtTheEnds returns points whose X or E is at an end of its range.
func pointsAtTheEnds() []knownPoint {
	return []knownPoint{
		{curveOf(1, -10000), pointOf(10000, 1000000, 1)}, {curveOf(-1, 10000), pointOf(10000, 1000000, 1)}, {curveOf(0, 561), pointOf(10000, 1000033, 7)}, {curveOf(49, 2416), pointOf(10000, 1085136, 19)},
		{curveOf(-977, 7764), pointOf(-10000, 58346, 17)},
		{curveOf(4, 441), pointOf(0, 21, 1)}, {curveOf(1, -9983), pointOf(8721, 160519, 20)}, {curveOf(990, 10000), pointOf(9801, 1770299, 20)}, {curveOf(4, 61), pointOf(-1439, 1809, 20)}, {curveOf(4, 95), pointOf(-751, 71943, 20)},
	}
}

// placesOutOfRange returns places that fulfil the equation of a valid curve, and break just one of the other rules.
func placesOutOfRange() []knownPoint {
	list := []knownPoint{
		// X or E is too large, by one where there is such a place.
		{curveOf(0, -7501), pointOf(10001, 1000150, 1)}, {curveOf(-1, 2500), pointOf(10001, 1000150, 1)}, {curveOf(4, 6816), pointOf(10001, 1003751, 10)}, {curveOf(-13, -1388), pointOf(10001, 943751, 20)},
		{curveOf(-260, 9718), pointOf(-10031, 172953, 20)}, {curveOf(-255, 9540), pointOf(-10071, 2283, 20)},
		{curveOf(3, -9724), pointOf(9895, 374984, 21)}, {curveOf(4, 441), pointOf(4, 194489, 21)}, {curveOf(4, 425), pointOf(-1700, 173825, 21)},
		// E is negative, or 0 without being infinity.
		{curveOf(0, 1), pointOf(2, 3, -1)}, {curveOf(0, 1), pointOf(2, -3, -1)}, {curveOf(-16, 16), pointOf(0, 4, -1)}, {curveOf(1, -9983), pointOf(8721, 160519, -20)}, {curveOf(4, 61), pointOf(-1439, 1809, -20)},
		{curveOf(0, 1), pointOf(1, 1, 0)}, {curveOf(0, 1), pointOf(1, -1, 0)}, {curveOf(-16, 16), pointOf(4, 8, 0)}, {curveOf(-16, 16), pointOf(9, -27, 0)}, {curveOf(-1, 0), pointOf(10000, 1000000, 0)},
	}
	// X and E have a common divisor.
	for _, known := range []knownPoint{{curveOf(0, 1), pointOf(2, 3, 1)}, {curveOf(0, 1), pointOf(0, -1, 1)}, {curveOf(0, 1), pointOf(-1, 0, 1)}, {curveOf(-1, 0), pointOf(0, 0, 1)}, {curveOf(-16, 16), pointOf(4, 4, 1)}} {
		for by := 2; by <= mostE; by++ {
			p := known.point
			list = append(list, knownPoint{known.curve, pointOf(p.X*by*by, p.Y*by*by*by, p.E*by)})
		}
	}
	return list
}

// placesThatWrap returns places that fulfil the equation of a valid curve only modulo 2 to the power 64.
func placesThatWrap() []knownPoint {
	return []knownPoint{
		{curveOf(-16, 16), pointOf(0, math.MinInt+4, 1)}, {curveOf(-16, 16), pointOf(0, math.MaxInt-3, 1)}, {curveOf(0, 1), pointOf(2, math.MinInt+3, 1)}, {curveOf(0, 1), pointOf(-1, 1<<32, 1)}, {curveOf(0, 1), pointOf(-1, -1<<32, 1)}, {curveOf(0, 1), pointOf(-1, math.MinInt, 1)}, {curveOf(-1, 0), pointOf(1, 1<<40, 1)},
		{curveOf(0, 4), pointOf(1<<22, 2, 1)}, {curveOf(0, 4), pointOf(math.MinInt, -2, 1)}, {curveOf(-16, 0), pointOf(1<<60, 0, 1)},
		{curveOf(-16, 16), pointOf(1, 1, 1<<16)}, {curveOf(5, 7), pointOf(1, -1, 1<<32)}, {curveOf(5, 7), pointOf(1, 1, math.MinInt)}, {curveOf(5, 7), pointOf(9, 27, -1<<62)},
	}
}

// invalidPoints returns points that none of the sample curves has.
func invalidPoints() []impl.Point {
	list := []impl.Point{pointOf(0, 1, 0), pointOf(1, 0, 0), pointOf(1, 1, 0), pointOf(0, 0, -1), pointOf(0, 0, 2), pointOf(2, 2, 2), pointOf(math.MinInt, math.MinInt, math.MinInt), pointOf(math.MaxInt, math.MaxInt, math.MaxInt)}
	for _, n := range []int{math.MinInt, math.MinInt + 1, -1 << 32, 1 << 32, math.MaxInt - 1, math.MaxInt} {
		list = append(list, pointOf(n, 0, 0), pointOf(0, n, 0), pointOf(0, 0, n), pointOf(n, 0, 1), pointOf(0, n, 1), pointOf(1, 1, n), pointOf(0, 4, n), pointOf(n, n, 1), pointOf(n, n, 0), pointOf(1, n, n))
	}
	return list
}

// checkPoint compares a result with the point that it should be. What should fail has the zero point.
func checkPoint(t *testing.T, got impl.Point, ok bool, want impl.Point, fine bool, what ...any) {
	t.Helper()
	if got != want || ok != fine {
		t.Errorf("%v: got %v, %v, want %v, %v", what, got, ok, want, fine)
	}
}

// checkPoints compares a list with the one that it should be.
func checkPoints(t *testing.T, got []impl.Point, ok bool, want []impl.Point, fine bool, what ...any) {
	t.Helper()
	if !slices.Equal(got, want) || ok != fine {
		t.Errorf("%v: got %v, %v, want %v, %v", what, got, ok, want, fine)
	}
}

// checkSum compares the sum of two points with the one that it should be, both ways.
func checkSum(t *testing.T, c impl.Curve, p impl.Point, q impl.Point, want impl.Point, fine bool) {
	t.Helper()
	got, ok := impl.AddPoints(c, p, q)
	checkPoint(t, got, ok, want, fine, c, p, "plus", q)
	got, ok = impl.AddPoints(c, q, p)
	checkPoint(t, got, ok, want, fine, c, q, "plus", p)
}
