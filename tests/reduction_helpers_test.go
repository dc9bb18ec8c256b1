package tests

import (
	"fmt"
	"math/big"
	"slices"
	"sync"
	"testing"

	"loop.example/g01004/impl"
)

// The kinds of reduction that the document names.
const (
	kindGood     = "good"
	kindSplit    = "split"
	kindNonsplit = "nonsplit"
	kindAdditive = "additive"
)

// knownReduction is what should be told of a curve at a prime. Without a node, the node and its triple are 0.
type knownReduction struct {
	minimal      impl.Curve
	scaled       int
	valuation    int
	kind         string
	symbol       string
	exponent     int
	node, triple int
	count        int
}

// hasNode reports whether the kind is one that has a node.
func (r knownReduction) hasNode() bool {
	return r.kind == kindSplit || r.kind == kindNonsplit
}

// timesOf returns how often a prime divides a number that is not 0.
func timesOf(n *big.Int, p int) int {
	times := 0
	for by := power(p, 1); new(big.Int).Rem(n, by).Sign() == 0; times++ {
		n = new(big.Int).Quo(n, by)
	}
	return times
}

// atLeast returns how often a prime divides a number, and a great number for 0.
func atLeast(n int, p int) int {
	if n == 0 {
		return 1000
	}
	return timesOf(big.NewInt(int64(n)), p)
}

// divided returns a number divided by the k-th power of another one.
func divided(n int, p int, k int) int {
	return int(new(big.Int).Quo(big.NewInt(int64(n)), power(p, k)).Int64())
}

// reductionOf tells the reduction of a valid curve at a prime from 5 on: from a search for the singular point and its tangents, from plain counts, and from valuations of A and B.
func reductionOf(c impl.Curve, p int) knownReduction {
	scaled := min(atLeast(c.A, p)/4, atLeast(c.B, p)/6)
	c = curveOf(divided(c.A, p, 4*scaled), divided(c.B, p, 6*scaled))
	r := knownReduction{minimal: c, scaled: scaled, valuation: timesOf(coreOf(c), p), kind: kindGood, symbol: "I0"}
	singular := -1
	for x := range p {
		if fast(x*x*x+c.A*x+c.B, p) == 0 && fast(3*x*x+c.A, p) == 0 {
			singular = x
			r.kind, r.symbol, r.exponent = nodeKind(x, p), fmt.Sprint("I", r.valuation), 1
		}
	}
	switch {
	case singular == 0:
		r.kind, r.symbol, r.exponent = kindAdditive, additiveSymbol(atLeast(c.A, p), atLeast(c.B, p), r.valuation), 2
	case singular > 0:
		r.node, r.triple = singular, fast(3*singular, p)
	}
	r.count = countWithout(c, p, singular)
	return r
}

// nodeKind tells the kind of a double root x that is not 0 from the slopes of tangents there, whose squares are 3 x: two of them or none.
func nodeKind(x int, p int) string {
	for slope := range p {
		if fast(slope*slope-3*x, p) == 0 {
			return kindSplit
		}
	}
	return kindNonsplit
}

// additiveSymbol returns the symbol of a minimal model by how often the prime divides A and B: for most of them, the valuation is not needed.
func additiveSymbol(ofA int, ofB int, valuation int) string {
	switch {
	case ofB == 1:
		return "II"
	case ofA == 1:
		return "III"
	case ofB == 2:
		return "IV"
	case ofA == 2 && ofB == 3:
		return fmt.Sprint("I", valuation-6, "*")
	case ofA == 2 || ofB == 3:
		return "I0*"
	case ofB == 4:
		return "IV*"
	case ofA == 3:
		return "III*"
	case ofB == 5:
		return "II*"
	}
	return "not minimal"
}

// componentsOf returns how many components go with a symbol.
func componentsOf(symbol string) int {
	known := map[string]int{"I0": 1, "II": 1, "III": 2, "IV": 3, "IV*": 7, "III*": 8, "II*": 9}
	for n := 1; n <= 20; n++ {
		known[fmt.Sprint("I", n)] = n
		known[fmt.Sprint("I", n-1, "*")] = n + 4
	}
	return known[symbol]
}

// countWithout counts the points of a curve modulo a prime, and infinity, but not the point with y = 0 at a singular x, if there is one.
func countWithout(c impl.Curve, p int, singular int) int {
	roots := make([]int, p)
	for y := range p {
		roots[y*y%p]++
	}
	count := 1
	for x := range p {
		if x != singular {
			count += roots[fast(x*x*x+c.A*x+c.B, p)]
		}
	}
	return count
}

// fromFive returns the primes that a call may have.
func fromFive() []int {
	return allPrimes()[2:]
}

// primesDividing returns the primes from 5 on that divide 4 A^3 + 27 B^2, strictly increasing.
func primesDividing(c impl.Curve) []int {
	core := new(big.Int).Abs(coreOf(c))
	rest := int(core.Int64())
	var list []int
	for p := 2; p*p <= rest; p++ {
		if rest%p > 0 {
			continue
		}
		if p >= 5 {
			list = append(list, p)
		}
		for rest%p == 0 {
			rest /= p
		}
	}
	if rest >= 5 {
		list = append(list, rest)
	}
	return list
}

// badOf returns the primes at which a curve is bad, and whether all primes that divide 4 A^3 + 27 B^2 are within the limit.
func badOf(c impl.Curve) ([]int, bool) {
	var list []int
	for _, p := range primesDividing(c) {
		if p > greatestPrime {
			return nil, false
		}
		if reductionOf(c, p).kind != kindGood {
			list = append(list, p)
		}
	}
	return list, true
}

// multiplesUpTo returns 0 and the multiples of a number, with both signs, up to a limit: at most the given number of each sign.
func multiplesUpTo(n int, limit int, most int) []int {
	list := []int{0}
	for k := 1; k <= most && k*n <= limit; k++ {
		list = append(list, k*n, -k*n)
	}
	return list
}

// powersTo returns the powers of a number from the first one on, up to a limit.
func powersTo(n int, limit int) []int {
	var list []int
	for power := n; power <= limit; power *= n {
		list = append(list, power)
	}
	return list
}

// cuspCurves returns curves for which a prime divides A and B, some for each pair of powers that divide them.
func cuspCurves(p int) []impl.Curve {
	var list []impl.Curve
	for _, ofA := range powersTo(p, mostCurveA) {
		for _, ofB := range powersTo(p, mostCurveB) {
			for _, a := range multiplesUpTo(ofA, mostCurveA, 4) {
				for _, b := range multiplesUpTo(ofB, mostCurveB, 4) {
					if c := curveOf(a, b); isLegalCurve(c) {
						list = append(list, c)
					}
				}
			}
		}
	}
	slices.SortFunc(list, compareCurves)
	return slices.Compact(list)
}

// starredCurves returns all curves for which A is divisible by the second power of a prime, and B by the third one.
func starredCurves(p int) []impl.Curve {
	var list []impl.Curve
	for _, a := range multiplesUpTo(p*p, mostCurveA, mostCurveA) {
		for _, b := range multiplesUpTo(p*p*p, mostCurveB, mostCurveB) {
			if c := curveOf(a, b); isLegalCurve(c) {
				list = append(list, c)
			}
		}
	}
	return list
}

// nodeCurves returns curves that have a node modulo a prime: for small p one for each node and others, for the greatest primes a few.
func nodeCurves(p int) []impl.Curve {
	var list []impl.Curve
	for k := 1; k < p; k += 1 + p/60 {
		for _, up := range []int{-2 * p, -p, 0, p} {
			for _, c := range []impl.Curve{curveOf(fast(-3*k*k, p)+up, fast(2*k*k*k, p)-up), curveOf(fast(-3*k*k, p)-p, fast(2*k*k*k, p)+9*up)} {
				if isLegalCurve(c) {
					list = append(list, c)
				}
			}
		}
	}
	return list
}

// compareCurves orders curves by A, then by B.
func compareCurves(c impl.Curve, d impl.Curve) int {
	return 100000*(c.A-d.A) + c.B - d.B
}

// reducedCurves returns curves of all sizes, each of them once, those that are not minimal at 5 among them.
var reducedCurves = sync.OnceValue(func() []impl.Curve {
	list := slices.Concat(endCurves(), nearSingularCurves(), fieldCurves(), []impl.Curve{curveOf(625, 0), curveOf(-625, 0)})
	for i, c := range sampleCurves() {
		if i%8 == 0 {
			list = append(list, c)
		}
	}
	for _, p := range []int{5, 7, 11, 13} {
		for i, c := range cuspCurves(p) {
			if i%9 == 0 {
				list = append(list, c)
			}
		}
	}
	slices.SortFunc(list, compareCurves)
	return slices.Compact(list)
})

// checkText compares a text with the one that it should be. What should fail has no text.
func checkText(t *testing.T, got string, ok bool, want string, fine bool, what ...any) {
	t.Helper()
	if got != want || ok != fine {
		t.Errorf("%v: got %q, %v, want %q, %v", what, got, ok, want, fine)
	}
}

// checkPrimes compares a list with the one that it should be. What should fail has the empty list.
func checkPrimes(t *testing.T, got []int, ok bool, want []int, fine bool, what ...any) {
	t.Helper()
	if !slices.Equal(got, want) || ok != fine {
		t.Errorf("%v: got %v, %v, want %v, %v", what, got, ok, want, fine)
	}
}

// checkMinimal compares the minimal model of a curve, and how often it was scaled, with what they should be.
func checkMinimal(t *testing.T, c impl.Curve, p int, want impl.Curve, scaled int, fine bool) {
	t.Helper()
	got, k, ok := impl.MinimalAt(c, p)
	if got != want || k != scaled || ok != fine {
		t.Errorf("the minimal model of %v at %d: got %v, %d, %v, want %v, %d, %v", c, p, got, k, ok, want, scaled, fine)
	}
}

// checkNode compares the node of a curve and its triple with what they should be.
func checkNode(t *testing.T, c impl.Curve, p int, node int, triple int, fine bool) {
	t.Helper()
	x, y, ok := impl.NodeAt(c, p)
	if x != node || y != triple || ok != fine {
		t.Errorf("the node of %v at %d: got %d, %d, %v, want %d, %d, %v", c, p, x, y, ok, node, triple, fine)
	}
}

// checkReduction compares all that is told of a curve at a prime with what it should be.
func checkReduction(t *testing.T, c impl.Curve, p int, want knownReduction) {
	t.Helper()
	checkMinimal(t, c, p, want.minimal, want.scaled, true)
	n, ok := impl.DiscriminantValuation(c, p)
	checkNumber(t, n, ok, want.valuation, true, "the valuation of", c, p)
	text, ok := impl.ReductionKind(c, p)
	checkText(t, text, ok, want.kind, true, "the kind of", c, p)
	text, ok = impl.ReductionSymbol(c, p)
	checkText(t, text, ok, want.symbol, true, "the symbol of", c, p)
	n, ok = impl.ConductorExponent(c, p)
	checkNumber(t, n, ok, want.exponent, true, "the exponent of", c, p)
	checkNode(t, c, p, want.node, want.triple, want.hasNode())
	n, ok = impl.NonsingularCount(c, p)
	checkNumber(t, n, ok, want.count, true, "the count of", c, p)
}

// checkBadOf compares all that is told of the bad primes of a curve with what is told at each one of them.
func checkBadOf(t *testing.T, c impl.Curve) {
	t.Helper()
	primes, fine := badOf(c)
	got, ok := impl.BadFromFive(c)
	checkPrimes(t, got, ok, primes, fine, "the bad primes of", c)
	byKind := map[string][]int{}
	part, text := 0, ""
	if fine {
		part = 1
	}
	for _, p := range primes {
		r := reductionOf(c, p)
		byKind[r.kind] = append(byKind[r.kind], p)
		for range r.exponent {
			part *= p
		}
		text += fmt.Sprint(p, " ", r.symbol, " ", r.kind, ";")
	}
	n, ok := impl.ConductorPart(c)
	checkNumber(t, n, ok, part, fine, "the conductor of", c)
	is, ok := impl.IsSemistableFromFive(c)
	checkBool(t, is, ok, fine && len(byKind[kindAdditive]) == 0, fine, "semistable", c)
	for _, kind := range []string{kindSplit, kindNonsplit, kindAdditive} {
		got, ok := impl.PrimesOfKind(c, kind)
		checkPrimes(t, got, ok, byKind[kind], fine, "the primes of", c, kind)
	}
	told, ok := impl.ReductionText(c)
	checkText(t, told, ok, text, fine, "the text of", c)
}
