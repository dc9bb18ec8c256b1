package tests

import (
	"fmt"
	"math"
	"slices"
	"testing"

	"loop.example/g01004/impl"
)

// curveCall is a call with a curve. It returns the results before the last one as a text, which is none if all of them are zero.
type curveCall struct {
	name string
	call func(c impl.Curve) (string, bool)
}

// curveCalls returns the functions of curves, once for each of some other arguments.
func curveCalls() []curveCall {
	number := func(name string, call func(c impl.Curve) (int, bool)) curveCall {
		return curveCall{name, func(c impl.Curve) (string, bool) {
			n, ok := call(c)
			return textUnless(n == 0, n), ok
		}}
	}
	list := func(name string, call func(c impl.Curve) ([]int, bool)) curveCall {
		return curveCall{name, func(c impl.Curve) (string, bool) {
			l, ok := call(c)
			return textUnless(len(l) == 0, l), ok
		}}
	}
	calls := []curveCall{
		{"IsCurve", func(c impl.Curve) (string, bool) { return "", impl.IsCurve(c) }},
		number("DiscriminantOf", impl.DiscriminantOf),
		{"InvariantOf", func(c impl.Curve) (string, bool) {
			num, den, ok := impl.InvariantOf(c)
			return textUnless(num == 0 && den == 0, num, den), ok
		}},
		{"SmallestModel", func(c impl.Curve) (string, bool) {
			small, u, ok := impl.SmallestModel(c)
			return textUnless(small == impl.Curve{} && u == 0, small, u), ok
		}},
		list("OrderTwoAt", impl.OrderTwoAt),
		number("RealParts", impl.RealParts),
		list("BadPrimes", impl.BadPrimes),
		{"CurveText", impl.CurveText},
	}
	for _, n := range []int{math.MinInt, -mostCoordinate - 1, -mostCoordinate, -1, 0, 1, 2, mostScale, mostScale + 1, mostCoordinate, mostCoordinate + 1, math.MaxInt} {
		calls = append(calls, curveCallsWith(n)...)
	}
	return append(calls, isomorphismCalls()...)
}

// curveCallsWith returns the functions that take a number, too.
func curveCallsWith(n int) []curveCall {
	calls := []curveCall{
		{fmt.Sprint("ScaleCurve ", n), func(c impl.Curve) (string, bool) {
			scaled, ok := impl.ScaleCurve(c, n)
			return textUnless(scaled == impl.Curve{}, scaled), ok
		}},
	}
	for _, m := range []int{0, n, math.MinInt, math.MaxInt} {
		for _, place := range [][2]int{{n, m}, {m, n}} {
			calls = append(calls, curveCall{fmt.Sprint("IsIntegerPoint ", place), func(c impl.Curve) (string, bool) {
				is, ok := impl.IsIntegerPoint(c, place[0], place[1])
				return textUnless(!is, is), ok
			}})
		}
	}
	return calls
}

// isomorphismCalls returns AreIsomorphic with another curve at either side, and with the same one at both.
func isomorphismCalls() []curveCall {
	calls := []curveCall{{"AreIsomorphic", func(c impl.Curve) (string, bool) {
		is, ok := impl.AreIsomorphic(c, c)
		return textUnless(!is, is), ok
	}}}
	for _, other := range []impl.Curve{curveOf(-16, 16), curveOf(0, 1), curveOf(-1, 0), curveOf(mostCurveA, mostCurveB), {}, curveOf(-3, 2), curveOf(math.MinInt, math.MaxInt)} {
		calls = append(calls, curveCall{fmt.Sprint("AreIsomorphic to ", other), func(c impl.Curve) (string, bool) {
			is, ok := impl.AreIsomorphic(c, other)
			return textUnless(!is, is), ok
		}}, curveCall{fmt.Sprint("AreIsomorphic from ", other), func(c impl.Curve) (string, bool) {
			is, ok := impl.AreIsomorphic(other, c)
			return textUnless(!is, is), ok
		}})
	}
	return calls
}

func TestInvalidCurvesFail(t *testing.T) {
	ends := []int{math.MinInt, math.MinInt + 1, -1, 0, 1, math.MaxInt - 1, math.MaxInt}
	list := invalidCurves()
	for _, a := range ends {
		for _, b := range ends {
			if c := curveOf(a, b); !isLegalCurve(c) {
				list = append(list, c)
			}
		}
	}
	for _, call := range curveCalls() {
		for _, c := range list {
			if text, ok := call.call(c); text != "" || ok {
				t.Errorf("%s of %v: got %q, %v", call.name, c, text, ok)
			}
		}
	}
}

func TestInvalidCurvesAreIsomorphicToNone(t *testing.T) {
	for _, c := range endCurves() {
		for _, other := range invalidCurves() {
			is, ok := impl.AreIsomorphic(c, other)
			checkBool(t, is, ok, false, false, c, "isomorphic to", other)
			is, ok = impl.AreIsomorphic(other, c)
			checkBool(t, is, ok, false, false, other, "isomorphic to", c)
		}
	}
}

func TestValidCurvesSucceed(t *testing.T) {
	for _, c := range sampleCurves() {
		for _, call := range []func(c impl.Curve) (int, bool){impl.DiscriminantOf, impl.RealParts} {
			if n, ok := call(c); n == 0 || !ok {
				t.Error(c, "->", n, ok)
			}
		}
		if list, ok := impl.OrderTwoAt(c); !ok {
			t.Error(c, "->", list, ok)
		}
	}
}

func TestCurveCallsKeepNoState(t *testing.T) {
	list := append(endCurves(), invalidCurves()...)
	for _, call := range curveCalls() {
		for i, c := range list {
			text, ok := call.call(c)
			call.call(list[len(list)-1-i])
			call.call(curveOf(-3, 2))
			call.call(curveOf(-7, 6))
			if again, fine := call.call(c); again != text || fine != ok {
				t.Errorf("%s of %v differs when it is called again: %q, %q", call.name, c, text, again)
			}
		}
	}
	for range 2 {
		c, ok := impl.ParseCurve("-16 16")
		checkCurve(t, c, ok, curveOf(-16, 16), true, "parsed")
		c, ok = impl.ParseCurve("-16 +16")
		checkCurve(t, c, ok, impl.Curve{}, false, "parsed")
	}
}

func TestListsOfCurvesShareNoMemory(t *testing.T) {
	for _, known := range []struct {
		name  string
		call  func(c impl.Curve) ([]int, bool)
		curve impl.Curve
		want  []int
	}{
		{"OrderTwoAt", impl.OrderTwoAt, curveOf(-7, 6), []int{-3, 1, 2}},
		{"OrderTwoAt", impl.OrderTwoAt, curveOf(0, 1), []int{-1}},
		{"BadPrimes", impl.BadPrimes, curveOf(0, 35), []int{2, 3, 5, 7}},
		{"BadPrimes", impl.BadPrimes, curveOf(-1, 0), []int{2}},
	} {
		changed, _ := known.call(known.curve)
		kept, _ := known.call(known.curve)
		overwrite(changed)
		if !slices.Equal(kept, known.want) {
			t.Error(known.name, "has changed an older list", kept)
		}
		next, ok := known.call(known.curve)
		checkList(t, next, ok, known.want, known.name, "of", known.curve, "again")
	}
}
