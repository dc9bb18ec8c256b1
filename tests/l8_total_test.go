package tests

import (
	"fmt"
	"math"
	"slices"
	"strings"
	"testing"

	"loop.example/g01004/impl"
)

// reductionCall is a call with a curve and a prime. It returns the results before the last one as a text, which is none if all of them are zero.
type reductionCall struct {
	name string
	call func(c impl.Curve, p int) (string, bool)
}

// reductionCalls returns the functions that take a prime.
func reductionCalls() []reductionCall {
	number := func(name string, call func(c impl.Curve, p int) (int, bool)) reductionCall {
		return reductionCall{name, func(c impl.Curve, p int) (string, bool) {
			n, ok := call(c, p)
			return textUnless(n == 0, n), ok
		}}
	}
	return []reductionCall{
		{"MinimalAt", func(c impl.Curve, p int) (string, bool) {
			minimal, k, ok := impl.MinimalAt(c, p)
			return textUnless(minimal == impl.Curve{} && k == 0, minimal, k), ok
		}},
		number("DiscriminantValuation", impl.DiscriminantValuation),
		{"ReductionKind", impl.ReductionKind},
		{"ReductionSymbol", impl.ReductionSymbol},
		number("ConductorExponent", impl.ConductorExponent),
		{"NodeAt", func(c impl.Curve, p int) (string, bool) {
			node, triple, ok := impl.NodeAt(c, p)
			return textUnless(node == 0 && triple == 0, node, triple), ok
		}},
		number("NonsingularCount", impl.NonsingularCount),
	}
}

// badPrimeCalls returns the functions of all bad primes, once for each kind and for texts that are none.
func badPrimeCalls() []curveCall {
	calls := []curveCall{
		{"BadFromFive", func(c impl.Curve) (string, bool) {
			list, ok := impl.BadFromFive(c)
			return textUnless(len(list) == 0, list), ok
		}},
		{"ConductorPart", func(c impl.Curve) (string, bool) {
			n, ok := impl.ConductorPart(c)
			return textUnless(n == 0, n), ok
		}},
		{"IsSemistableFromFive", func(c impl.Curve) (string, bool) {
			is, ok := impl.IsSemistableFromFive(c)
			return textUnless(!is, is), ok
		}},
		{"ReductionText", impl.ReductionText},
	}
	for _, kind := range append(noKinds(), kindSplit, kindNonsplit, kindAdditive, strings.Repeat(kindSplit, 100000)) {
		calls = append(calls, curveCall{fmt.Sprintf("PrimesOfKind %.20q", kind), func(c impl.Curve) (string, bool) {
			list, ok := impl.PrimesOfKind(c, kind)
			return textUnless(len(list) == 0, list), ok
		}})
	}
	return calls
}

// checkReductionZero checks that all calls with a curve and a prime fail with zero results.
func checkReductionZero(t *testing.T, c impl.Curve, p int) {
	t.Helper()
	for _, call := range reductionCalls() {
		if text, ok := call.call(c, p); text != "" || ok {
			t.Errorf("%s of %v at %d: got %q, %v", call.name, c, p, text, ok)
		}
	}
}

// invalidForReduction returns invalid curves, those with the least and the greatest numbers among them.
func invalidForReduction() []impl.Curve {
	list := invalidCurves()
	ends := []int{math.MinInt, math.MinInt + 1, -1, 0, 1, math.MaxInt - 1, math.MaxInt}
	for _, a := range ends {
		for _, b := range ends {
			if c := curveOf(a, b); !isLegalCurve(c) {
				list = append(list, c)
			}
		}
	}
	return list
}

func TestInvalidCurvesHaveNoReduction(t *testing.T) {
	calls := badPrimeCalls()
	for _, c := range invalidForReduction() {
		for _, p := range []int{math.MinInt, -5, 0, 1, 2, 3, 4, 5, 7, 25, 37, 199, greatestPrime, leastBeyond, math.MaxInt} {
			checkReductionZero(t, c, p)
		}
		for _, call := range calls {
			if text, ok := call.call(c); text != "" || ok {
				t.Errorf("%s of %v: got %q, %v", call.name, c, text, ok)
			}
		}
	}
}

func TestNumbersThatAreNoPrimesHaveNoReduction(t *testing.T) {
	list := append(fieldCurves(), curveOf(625, 0), curveOf(-625, 0), curveOf(0, 1), curveOf(16, 64), curveOf(0, 729), curveOf(81, 729), curveOf(2, 2), curveOf(3, 3), curveOf(36, 216), curveOf(0, leastBeyond))
	for _, c := range list {
		for _, p := range append(invalidPrimes(), 2, 3, -5, -37, 5*7, 1<<32+5, 1<<32+37, math.MinInt+5) {
			checkReductionZero(t, c, p)
		}
	}
}

func TestReductionsOfValidCurvesSucceed(t *testing.T) {
	for _, c := range append(endCurves(), nearSingularCurves()...) {
		for _, p := range []int{5, 7, 11, 37, 199, 211, greatestPrime} {
			for _, call := range reductionCalls() {
				if text, ok := call.call(c, p); !ok && (call.name != "NodeAt" || text != "") {
					t.Errorf("%s of %v at %d: got %q, %v", call.name, c, p, text, ok)
				}
			}
		}
	}
}

func TestListsOfBadPrimesShareNoMemory(t *testing.T) {
	c := curveOf(-980, 105)
	want := []int{5, 7, 11, 109, 233}
	for name, known := range map[string]struct {
		call func(c impl.Curve) ([]int, bool)
		want []int
	}{
		"BadFromFive":           {impl.BadFromFive, want},
		"PrimesOfKind additive": {func(c impl.Curve) ([]int, bool) { return impl.PrimesOfKind(c, kindAdditive) }, want[:2]},
		"PrimesOfKind split":    {func(c impl.Curve) ([]int, bool) { return impl.PrimesOfKind(c, kindSplit) }, want[2:3]},
		"PrimesOfKind nonsplit": {func(c impl.Curve) ([]int, bool) { return impl.PrimesOfKind(c, kindNonsplit) }, want[3:]},
	} {
		changed, _ := known.call(c)
		kept, _ := known.call(c)
		overwrite(changed)
		if !slices.Equal(kept, known.want) {
			t.Error(name, "has changed an older list", kept)
		}
		next, ok := known.call(c)
		checkPrimes(t, next, ok, known.want, true, name, "again")
		text, ok := impl.ReductionText(c)
		checkText(t, text, ok, "5 II additive;7 II additive;11 I2 split;109 I1 nonsplit;233 I1 nonsplit;", true, name)
	}
}

func TestReductionCallsKeepNoState(t *testing.T) {
	places := []primeFor{
		{curveOf(-16, 16), 37}, {curveOf(-16, 16), 5}, {curveOf(625, 0), 5}, {curveOf(0, 3125), 5}, {curveOf(-925, -8250), 5}, {curveOf(-432, 8208), 11}, {curveOf(0, leastBeyond), 5}, {curveOf(0, greatestPrime), greatestPrime}, {impl.Curve{}, 5}, {curveOf(0, 1), 4},
	}
	for _, call := range reductionCalls() {
		for i, known := range places {
			text, ok := call.call(known.curve, known.p)
			for k := range places {
				other := places[(i+k)%len(places)]
				call.call(other.curve, other.p)
			}
			if again, fine := call.call(known.curve, known.p); again != text || fine != ok {
				t.Errorf("%s of %v differs when it is called again: %q, %q", call.name, known, text, again)
			}
		}
	}
	for _, call := range badPrimeCalls() {
		for i, known := range places {
			text, ok := call.call(known.curve)
			call.call(places[len(places)-1-i].curve)
			if again, fine := call.call(known.curve); again != text || fine != ok {
				t.Errorf("%s of %v differs when it is called again: %q, %q", call.name, known, text, again)
			}
		}
	}
}
