package tests

import (
	"fmt"
	"math"
	"slices"
	"testing"

	"loop.example/g01004/impl"
)

// pointCall is a call with a curve and a point. It returns the results before the last one as a text, which is none if all of them are zero.
type pointCall struct {
	name string
	call func(c impl.Curve, p impl.Point) (string, bool)
}

// pointCalls returns the functions of a point, once for each of some other arguments.
func pointCalls() []pointCall {
	calls := []pointCall{
		{"IsPointOf", func(c impl.Curve, p impl.Point) (string, bool) { return "", impl.IsPointOf(c, p) }},
		pointToPoint("NegatePoint", impl.NegatePoint),
		pointToPoint("DoublePoint", impl.DoublePoint),
		{"OrderOfPoint", func(c impl.Curve, p impl.Point) (string, bool) {
			n, ok := impl.OrderOfPoint(c, p)
			return textUnless(n == 0, n), ok
		}},
		{"PointHeight", func(c impl.Curve, p impl.Point) (string, bool) {
			n, ok := impl.PointHeight(c, p)
			return textUnless(n == 0, n), ok
		}},
		{"PointText", impl.PointText},
	}
	for _, n := range []int{math.MinInt, math.MinInt + 1, -mostMultiple - 1, -mostMultiple, -2, -1, 0, 1, 2, 3, mostMultiple, mostMultiple + 1, math.MaxInt} {
		calls = append(calls, pointToPoint(fmt.Sprint("MultiplePoint ", n), func(c impl.Curve, p impl.Point) (impl.Point, bool) {
			return impl.MultiplePoint(c, p, n)
		}), pointCall{fmt.Sprint("MultiplesOf ", n), func(c impl.Curve, p impl.Point) (string, bool) {
			list, ok := impl.MultiplesOf(c, p, n)
			return textUnless(len(list) == 0, list), ok
		}})
	}
	for _, q := range []impl.Point{infinity, pointOf(0, 4, 1), pointOf(2, 3, 1), pointOf(0, 0, 1), pointOf(1, 1, 0), pointOf(math.MinInt, math.MaxInt, math.MinInt)} {
		calls = append(calls, callsWithPoint(q)...)
	}
	return append(calls, callsWithPoint(infinity, impl.Point{X: 1})...)
}

// pointToPoint makes a call of a function that returns a point.
func pointToPoint(name string, call func(c impl.Curve, p impl.Point) (impl.Point, bool)) pointCall {
	return pointCall{name, func(c impl.Curve, p impl.Point) (string, bool) {
		q, ok := call(c, p)
		return textUnless(q == infinity, q), ok
	}}
}

// callsWithPoint returns the functions of several points, with another point at each of the other places, or with several ones in turn.
func callsWithPoint(others ...impl.Point) []pointCall {
	q, r := others[0], others[len(others)-1]
	slope := func(c impl.Curve, p impl.Point, q impl.Point) (string, bool) {
		a, ok := impl.SlopeOf(c, p, q)
		return textUnless(a == impl.Fraction{}, a), ok
	}
	line := func(c impl.Curve, p impl.Point, q impl.Point, r impl.Point) (string, bool) {
		is, ok := impl.AreCollinear(c, p, q, r)
		return textUnless(!is, is), ok
	}
	with := func(name string, call func(c impl.Curve, p impl.Point) (string, bool)) pointCall {
		return pointCall{fmt.Sprint(name, " with ", others), call}
	}
	return []pointCall{
		pointToPoint(fmt.Sprint("AddPoints, then ", q), func(c impl.Curve, p impl.Point) (impl.Point, bool) { return impl.AddPoints(c, p, q) }),
		pointToPoint(fmt.Sprint("AddPoints after ", q), func(c impl.Curve, p impl.Point) (impl.Point, bool) { return impl.AddPoints(c, q, p) }),
		with("SlopeOf first", func(c impl.Curve, p impl.Point) (string, bool) { return slope(c, p, q) }),
		with("SlopeOf last", func(c impl.Curve, p impl.Point) (string, bool) { return slope(c, q, p) }),
		with("AreCollinear first", func(c impl.Curve, p impl.Point) (string, bool) { return line(c, p, q, r) }),
		with("AreCollinear between", func(c impl.Curve, p impl.Point) (string, bool) { return line(c, q, p, r) }),
		with("AreCollinear last", func(c impl.Curve, p impl.Point) (string, bool) { return line(c, q, r, p) }),
	}
}

// checkZero checks that all calls with a curve and a point fail with zero results.
func checkZero(t *testing.T, calls []pointCall, c impl.Curve, p impl.Point) {
	t.Helper()
	for _, call := range calls {
		if text, ok := call.call(c, p); text != "" || ok {
			t.Errorf("%s of %v, %v: got %q, %v", call.name, c, p, text, ok)
		}
	}
}

func TestInvalidCurvesHaveNoPoints(t *testing.T) {
	calls := pointCalls()
	ends := []int{math.MinInt, math.MinInt + 1, -1, 0, 1, math.MaxInt - 1, math.MaxInt}
	list := append(invalidCurves(), curveOf(0, 0))
	for _, a := range ends {
		for _, b := range ends {
			if c := curveOf(a, b); !isLegalCurve(c) {
				list = append(list, c)
			}
		}
	}
	for _, c := range list {
		for _, p := range []impl.Point{infinity, pointOf(0, 0, 1), pointOf(0, 4, 1), pointOf(1, 1, 1), pointOf(1, 0, 1), pointOf(0, 0, 2), pointOf(math.MinInt, math.MinInt, math.MinInt)} {
			checkZero(t, calls, c, p)
		}
		// The double point (1, 0) of -3 and 2 is no point of a curve.
		for _, x := range []impl.Fraction{frac(0, 1), frac(1, 1), frac(1, 4), frac(-1, 1), {}} {
			got, ok := impl.PointsAtX(c, x)
			checkPoints(t, got, ok, nil, false, c, "at", x)
		}
	}
}

func TestInvalidPointsFail(t *testing.T) {
	calls := pointCalls()
	for _, c := range []impl.Curve{curveOf(-16, 16), curveOf(0, 1), curveOf(-1, 0), curveOf(1000, 10000), curveOf(-1000, -10000)} {
		for _, p := range append(invalidPoints(), pointOf(0, 5, 1), pointOf(-3, 1, 1), pointOf(1, 1, 2), pointOf(0, 32, 2), pointOf(mostX, mostX, mostE)) {
			checkZero(t, calls, c, p)
		}
	}
	for _, known := range slices.Concat(placesOutOfRange(), placesThatWrap()) {
		checkZero(t, calls, known.curve, known.point)
	}
}

func TestInvalidPointsFailWithAllPoints(t *testing.T) {
	for _, pointed := range pointedCurves() {
		c := pointed.curve
		for _, p := range pointed.points {
			for _, none := range []impl.Point{pointOf(0, 0, -1), pointOf(1, 1, 0), pointOf(p.X, p.Y+1, p.E), pointOf(p.X*4, p.Y*8, max(2*p.E, 2)), pointOf(p.X, p.Y, -p.E-1), pointOf(p.X, math.MinInt+p.Y, p.E), pointOf(math.MinInt, p.Y, p.E), pointOf(p.X, p.Y, math.MaxInt)} {
				if isLegalPoint(c, none) {
					continue
				}
				checkSum(t, c, p, none, infinity, false)
				for _, order := range [][2]impl.Point{{p, none}, {none, p}, {none, none}} {
					got, ok := impl.SlopeOf(c, order[0], order[1])
					if got != (impl.Fraction{}) || ok {
						t.Error(c, "the slope of", order, got, ok)
					}
				}
				is, ok := impl.AreCollinear(c, p, minus(p), none)
				checkBool(t, is, ok, false, false, c, p, minus(p), none)
			}
		}
	}
}

func TestPointCallsKeepNoState(t *testing.T) {
	places := []knownPoint{
		{curveOf(-16, 16), pointOf(0, 4, 1)}, {curveOf(0, 1), pointOf(2, 3, 1)}, {curveOf(-1, 0), pointOf(0, 0, 1)}, {curveOf(1, -9983), pointOf(8721, 160519, 20)}, {curveOf(0, 1), infinity}, {curveOf(0, 1), pointOf(2, 3, -1)}, {impl.Curve{}, infinity}, {curveOf(-4, 4), pointOf(2, 2, 1)}, {curveOf(-57, 2081), pointOf(37, 225, 1)},
	}
	for _, call := range pointCalls() {
		for i, known := range places {
			text, ok := call.call(known.curve, known.point)
			for k := range places {
				other := places[(i+k)%len(places)]
				call.call(other.curve, other.point)
			}
			if again, fine := call.call(known.curve, known.point); again != text || fine != ok {
				t.Errorf("%s of %v differs when it is called again: %q, %q", call.name, known, text, again)
			}
		}
	}
}

func TestListsOfPointsShareNoMemory(t *testing.T) {
	c := curveOf(-16, 16)
	for _, known := range []struct {
		name string
		call func() ([]impl.Point, bool)
		want []impl.Point
	}{
		{"MultiplesOf", func() ([]impl.Point, bool) { return impl.MultiplesOf(c, pointOf(0, 4, 1), 3) }, []impl.Point{pointOf(0, 4, 1), pointOf(4, 4, 1), pointOf(-4, -4, 1)}},
		{"MultiplesOf", func() ([]impl.Point, bool) { return impl.MultiplesOf(c, infinity, 2) }, []impl.Point{infinity, infinity}},
		{"PointsAtX", func() ([]impl.Point, bool) { return impl.PointsAtX(c, frac(0, 1)) }, []impl.Point{pointOf(0, -4, 1), pointOf(0, 4, 1)}},
		{"PointsAtX", func() ([]impl.Point, bool) { return impl.PointsAtX(curveOf(0, 1), frac(-1, 1)) }, []impl.Point{pointOf(-1, 0, 1)}},
	} {
		changed, _ := known.call()
		kept, ok := known.call()
		for i := range changed[:cap(changed)] {
			changed[:cap(changed)][i] = pointOf(sentinel, sentinel, sentinel)
		}
		checkPoints(t, kept, ok, known.want, true, known.name, "an older list")
		next, ok := known.call()
		checkPoints(t, next, ok, known.want, true, known.name, "a newer list")
	}
}
