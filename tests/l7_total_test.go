package tests

import (
	"fmt"
	"math"
	"slices"
	"testing"

	"loop.example/g01004/impl"
)

// fieldCall is a call with a curve, a prime and a list. It returns the results before the last one as a text, which is none if all of them are zero.
type fieldCall struct {
	name string
	call func(c impl.Curve, p int, s []int) (string, bool)
}

// listToList makes a call of a function that returns a list.
func listToList(name string, call func(c impl.Curve, p int, s []int) ([]int, bool)) fieldCall {
	return fieldCall{name, func(c impl.Curve, p int, s []int) (string, bool) {
		got, ok := call(c, p, s)
		return textUnless(len(got) == 0, got), ok
	}}
}

// fieldPointCalls returns the functions that require a point, once for each of some other arguments.
func fieldPointCalls() []fieldCall {
	calls := []fieldCall{
		listToList("OppositeModulo", impl.OppositeModulo),
		{"OrderModulo", func(c impl.Curve, p int, s []int) (string, bool) {
			n, ok := impl.OrderModulo(c, p, s)
			return textUnless(n == 0, n), ok
		}},
		listToList("AddModulo twice", func(c impl.Curve, p int, s []int) ([]int, bool) { return impl.AddModulo(c, p, s, s) }),
	}
	for _, u := range [][]int{nil, {}, {0, 0}, {0, 1}, {2, 3}, {1}, {0, 0, 0}, {math.MinInt, math.MaxInt}} {
		calls = append(calls, listToList(fmt.Sprint("AddModulo, then ", u), func(c impl.Curve, p int, s []int) ([]int, bool) {
			return impl.AddModulo(c, p, s, u)
		}), listToList(fmt.Sprint("AddModulo after ", u), func(c impl.Curve, p int, s []int) ([]int, bool) {
			return impl.AddModulo(c, p, u, s)
		}))
	}
	for _, n := range []int{math.MinInt, -mostTimes - 1, -mostTimes, -1, 0, 1, 2, mostTimes, mostTimes + 1, math.MaxInt} {
		calls = append(calls, listToList(fmt.Sprint("TimesModulo ", n), func(c impl.Curve, p int, s []int) ([]int, bool) {
			return impl.TimesModulo(c, p, n, s)
		}))
	}
	return calls
}

// fieldCalls returns all functions that require primes up to MaxFieldPrime.
func fieldCalls() []fieldCall {
	calls := append(fieldPointCalls(), fieldCall{"IsPointModulo", func(c impl.Curve, p int, s []int) (string, bool) {
		is, ok := impl.IsPointModulo(c, p, s)
		return textUnless(!is, is), ok
	}}, fieldCall{"PointsModulo", func(c impl.Curve, p int, s []int) (string, bool) {
		list, ok := impl.PointsModulo(c, p)
		return textUnless(len(list) == 0, list), ok
	}}, fieldCall{"GroupShape", func(c impl.Curve, p int, s []int) (string, bool) {
		m, n, ok := impl.GroupShape(c, p)
		return textUnless(m == 0 && n == 0, m, n), ok
	}})
	for _, n := range []int{math.MinInt, -1, 0, 1, 2, mostCounted, mostCounted + 1, math.MaxInt} {
		calls = append(calls, fieldCall{fmt.Sprint("CountOrders ", n), func(c impl.Curve, p int, s []int) (string, bool) {
			count, ok := impl.CountOrders(c, p, n)
			return textUnless(count == 0, count), ok
		}})
	}
	return calls
}

// checkFieldZero checks that all calls with a curve, a prime and a list fail with zero results.
func checkFieldZero(t *testing.T, calls []fieldCall, c impl.Curve, p int, s []int) {
	t.Helper()
	for _, call := range calls {
		if text, ok := call.call(c, p, s); text != "" || ok {
			t.Errorf("%s of %v modulo %d with %v: got %q, %v", call.name, c, p, s, text, ok)
		}
	}
}

// listsForAnyPrime are infinity, places that may be points, and others that are none.
func listsForAnyPrime() [][]int {
	return [][]int{nil, {}, {0, 0}, {0, 1}, {1, 0}, {2, 3}, {3}, {0, 1, 2}, {-1, 0}, {math.MinInt, math.MinInt}, {math.MaxInt, math.MaxInt}}
}

func TestInvalidCurvesHaveNoPointsModulo(t *testing.T) {
	calls := fieldCalls()
	for _, c := range append(invalidCurves(), curveOf(math.MinInt, math.MinInt), curveOf(math.MaxInt, math.MinInt), curveOf(0, 0)) {
		for _, p := range []int{math.MinInt, -5, 0, 2, 3, 4, 5, 7, mostFieldPrime, leastBeyondField, greatestPrime, leastBeyond, math.MaxInt} {
			is, ok := impl.IsGoodPrime(c, p)
			checkBool(t, is, ok, false, false, c, p)
			n, ok := impl.CountPoints(c, p)
			checkNumber(t, n, ok, 0, false, c, p)
			for _, s := range listsForAnyPrime() {
				checkFieldZero(t, calls, c, p, s)
			}
		}
	}
}

func TestUnfitPrimesFail(t *testing.T) {
	calls := fieldCalls()
	for _, known := range unfitPrimes() {
		n, ok := impl.CountPoints(known.curve, known.p)
		checkNumber(t, n, ok, 0, false, known)
		for _, s := range listsForAnyPrime()[1:4] {
			checkFieldZero(t, calls, known.curve, known.p, s)
		}
	}
	for _, p := range []int{2, 3, 4, 9, 25, 37, 198, 200, 201, leastBeyond, math.MinInt, math.MaxInt} {
		for _, s := range append(listsForAnyPrime(), []int{0, 4}) {
			checkFieldZero(t, calls, curveOf(-16, 16), p, s)
		}
	}
}

func TestPrimesBeyondTheFieldPrimes(t *testing.T) {
	calls := fieldCalls()
	list := primesBeyondField()
	for _, known := range list {
		n, ok := impl.CountPoints(known.curve, known.p)
		checkNumber(t, n, ok, countByJacobi(known.curve, known.p), true, known)
		for _, s := range listsForAnyPrime()[1:4] {
			checkFieldZero(t, calls, known.curve, known.p, s)
		}
	}
	for _, p := range []int{leastBeyondField, greatestPrime} {
		if !slices.Contains(list, primeFor{curveOf(-16, 16), p}) {
			t.Error("no primes for this test", p)
		}
		checkFieldZero(t, calls, curveOf(-16, 16), p, []int{0, 4})
	}
}

func TestListsThatAreNoPointsFail(t *testing.T) {
	calls := fieldPointCalls()
	for i, g := range sampleGroups() {
		for k, none := range g.noPoints() {
			if (i+k)%5 == 0 {
				checkFieldZero(t, calls, g.curve, g.p, none)
			}
			for m, s := range g.somePoints() {
				if (i+k+m)%7 > 0 {
					continue
				}
				got, ok := impl.AddModulo(g.curve, g.p, s, none)
				checkField(t, got, ok, nil, false, g.curve, g.p, s, none)
				got, ok = impl.AddModulo(g.curve, g.p, none, s)
				checkField(t, got, ok, nil, false, g.curve, g.p, none, s)
			}
		}
	}
}

// pointsForMemory are points of the curve with A = 0 and B = 1 modulo 7: infinity, points of order two, three and six.
func pointsForMemory() [][]int {
	return [][]int{{}, {3, 0}, {0, 1}, {2, 3}}
}

func TestListsAreNeitherChangedNorKept(t *testing.T) {
	c := curveOf(0, 1)
	calls := append(fieldCalls(), fieldCall{"CountPoints", func(c impl.Curve, p int, s []int) (string, bool) {
		n, ok := impl.CountPoints(c, p)
		return textUnless(n == 0, n), ok
	}})
	for _, call := range calls {
		for _, s := range append(pointsForMemory(), listsForAnyPrime()...) {
			list := withSpare(s)
			text, ok := call.call(c, 7, list)
			if want := append(slices.Clone(s), sentinel, sentinel, sentinel); !slices.Equal(list[:len(want)], want) {
				t.Errorf("%s has changed %v to %v", call.name, s, list[:len(want)])
			}
			overwrite(list)
			if again, okToo := call.call(c, 7, slices.Clone(s)); again != text || okToo != ok {
				t.Errorf("%s of %v differs when it is called again: %q, %q", call.name, s, text, again)
			}
		}
	}
}

func TestSpareCapacityIsNotRead(t *testing.T) {
	c := curveOf(0, 1)
	place := []int{2, 3, 0, 1}
	for length, want := range map[int]bool{0: true, 1: false, 2: true, 3: false, 4: false} {
		is, ok := impl.IsPointModulo(c, 7, place[:length])
		checkBool(t, is, ok, want, true, place[:length])
	}
	got, ok := impl.AddModulo(c, 7, place[:0], place[2:])
	checkField(t, got, ok, []int{0, 1}, true, "infinity plus", place[2:])
	got, ok = impl.AddModulo(c, 7, place[:2], place[2:])
	checkField(t, got, ok, []int{6, 0}, true, place[:2], place[2:])
	got, ok = impl.OppositeModulo(c, 7, place[:0])
	checkField(t, got, ok, nil, true, "minus infinity")
	if !slices.Equal(place, []int{2, 3, 0, 1}) {
		t.Error("the place has changed", place)
	}
}

func TestPointsShareNoMemory(t *testing.T) {
	c := curveOf(0, 1)
	for _, s := range pointsForMemory() {
		for _, u := range pointsForMemory() {
			for name, call := range map[string]func(s []int, u []int) ([]int, bool){
				"AddModulo":       func(s []int, u []int) ([]int, bool) { return impl.AddModulo(c, 7, s, u) },
				"OppositeModulo":  func(s []int, u []int) ([]int, bool) { return impl.OppositeModulo(c, 7, s) },
				"TimesModulo 0":   func(s []int, u []int) ([]int, bool) { return impl.TimesModulo(c, 7, 0, s) },
				"TimesModulo 1":   func(s []int, u []int) ([]int, bool) { return impl.TimesModulo(c, 7, 1, s) },
				"TimesModulo -1":  func(s []int, u []int) ([]int, bool) { return impl.TimesModulo(c, 7, -1, s) },
				"TimesModulo 601": func(s []int, u []int) ([]int, bool) { return impl.TimesModulo(c, 7, 601, s) },
			} {
				first, second := withSpare(s), withSpare(u)
				want, ok := call(slices.Clone(s), slices.Clone(u))
				want = slices.Clone(want)
				kept, okToo := call(first, second)
				changed, _ := call(first, second)
				overwrite(changed)
				checkField(t, kept, ok, want, okToo, name, "an older list", s, u)
				checkField(t, first[:len(s)+3], ok, append(slices.Clone(s), sentinel, sentinel, sentinel), true, name, "its argument", s)
				overwrite(first)
				overwrite(second)
				checkField(t, kept, ok, want, okToo, name, "a list after its arguments", s, u)
			}
		}
	}
	// The result of infinity and a point is no part of that point.
	s := []int{2, 3}
	for _, order := range [][2][]int{{nil, s}, {s, nil}} {
		sum, _ := impl.AddModulo(c, 7, order[0], order[1])
		overwrite(sum)
		checkField(t, s, true, []int{2, 3}, true, "a point plus infinity")
	}
}

func TestListsModuloShareNoMemory(t *testing.T) {
	c := curveOf(0, 4)
	want := [][]int{nil, {0, 2}, {0, 5}}
	kept, _ := impl.PointsModulo(c, 7)
	for i := range want {
		changed, _ := impl.PointsModulo(c, 7)
		overwrite(changed[i])
		changed[i] = want[i]
		if !slices.EqualFunc(changed, want, slices.Equal) {
			t.Error("another list of the same result has changed", changed)
		}
	}
	changed, _ := impl.PointsModulo(c, 7)
	for i := range changed[:cap(changed)] {
		changed[:cap(changed)][i] = []int{sentinel}
	}
	if !slices.EqualFunc(kept, want, slices.Equal) {
		t.Error("an older result has changed", kept)
	}
	if next, ok := impl.PointsModulo(c, 7); !slices.EqualFunc(next, want, slices.Equal) || !ok {
		t.Error("a newer result has changed", next, ok)
	}
}

func TestFieldCallsKeepNoState(t *testing.T) {
	places := []struct {
		curve impl.Curve
		p     int
		s     []int
	}{
		{curveOf(0, 1), 7, []int{2, 3}}, {curveOf(0, 1), mostFieldPrime, []int{2, 3}}, {curveOf(-16, 16), 5, []int{0, 4}}, {curveOf(-16, 16), 37, []int{0, 4}}, {curveOf(-16, 16), leastBeyondField, []int{0, 4}}, {curveOf(-1, 0), 5, nil}, {curveOf(-1, 0), 5, []int{0}}, {impl.Curve{}, 5, nil}, {curveOf(0, 1), 7, []int{2, 4}},
	}
	for _, call := range fieldCalls() {
		for i, known := range places {
			text, ok := call.call(known.curve, known.p, known.s)
			for k := range places {
				other := places[(i+k)%len(places)]
				call.call(other.curve, other.p, other.s)
			}
			if again, fine := call.call(known.curve, known.p, known.s); again != text || fine != ok {
				t.Errorf("%s of %v differs when it is called again: %q, %q", call.name, known, text, again)
			}
		}
	}
}
