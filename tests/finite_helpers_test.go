package tests

import (
	"math"
	"math/big"
	"slices"
	"sync"
	"testing"

	"loop.example/g01004/impl"
)

// The limits that the document names.
const (
	leastGood        = 5
	mostFieldPrime   = 199
	mostTimes        = 1000000000
	mostCounted      = 1000
	leastBeyondField = 211 // the least prime modulo which points are only counted
)

// isGood reports by the document's definition alone whether a number is a good prime for a valid curve.
func isGood(c impl.Curve, p int) bool {
	return isPrime(p) && leastGood <= p && p <= greatestPrime && new(big.Int).Mod(coreOf(c), big.NewInt(int64(p))).Sign() != 0
}

// fast returns the residue of a small number, without the rules of package big.
func fast(a int, p int) int {
	return (a%p + p) % p
}

// goodPrimes returns the good primes of a curve up to a limit.
func goodPrimes(c impl.Curve, most int) []int {
	var list []int
	for p := range most + 1 {
		if isGood(c, p) {
			list = append(list, p)
		}
	}
	return list
}

// fieldGroup is the group of the points of a curve modulo a prime. It knows its points from a plain enumeration, and sums from a search for lines.
type fieldGroup struct {
	curve  impl.Curve
	p      int
	points [][]int
}

// groupOf returns the group of a curve modulo a good prime.
func groupOf(c impl.Curve, p int) fieldGroup {
	g := fieldGroup{curve: c, p: p, points: [][]int{nil}}
	for x := range p {
		right := residue(x*x*x+c.A*x+c.B, p)
		for y := range p {
			if y*y%p == right {
				g.points = append(g.points, []int{x, y})
			}
		}
	}
	return g
}

// has reports whether a list is a point.
func (g fieldGroup) has(s []int) bool {
	return slices.ContainsFunc(g.points, func(t []int) bool { return slices.Equal(s, t) })
}

// minus returns the opposite of a point.
func (g fieldGroup) minus(s []int) []int {
	if len(s) == 0 {
		return nil
	}
	return []int{s[0], (g.p - s[1]) % g.p}
}

// plus returns the sum of two points: the opposite of the third root x of the difference of both sides on the one line that has both points as roots, twice if they are equal.
func (g fieldGroup) plus(s []int, t []int) []int {
	switch {
	case len(s) == 0:
		return t
	case len(t) == 0:
		return s
	case slices.Equal(t, g.minus(s)):
		return nil
	}
	for slope := range g.p {
		height := fast(s[1]-slope*s[0], g.p)
		x := fast(slope*slope-s[0]-t[0], g.p)
		linear := fast(g.curve.A-2*slope*height-s[0]*t[0]-x*(s[0]+t[0]), g.p)
		constant := fast(g.curve.B-height*height+s[0]*t[0]*x, g.p)
		if linear == 0 && constant == 0 && fast(slope*t[0]+height-t[1], g.p) == 0 {
			return []int{x, fast(-slope*x-height, g.p)}
		}
	}
	return []int{-1, -1}
}

// multiplesOf returns the multiples of a point for 0, 1, .. before infinity comes again: they are as many as its order.
func (g fieldGroup) multiplesOf(s []int) [][]int {
	list := [][]int{nil}
	for sum := s; len(sum) > 0; sum = g.plus(sum, s) {
		list = append(list, sum)
	}
	return list
}

// orders returns the orders of all points, in the order of the points.
func (g fieldGroup) orders() []int {
	var list []int
	for _, s := range g.points {
		list = append(list, len(g.multiplesOf(s)))
	}
	return list
}

// somePoints returns infinity, the first points, all those of order two, and some others, each with its opposite.
func (g fieldGroup) somePoints() [][]int {
	var list [][]int
	for i, s := range g.points {
		if i < 4 || i%(1+len(g.points)/12) == 0 || s[1] == 0 {
			list = append(list, s, g.minus(s))
		}
	}
	return list
}

// groupsModulo returns the groups of all curves with coefficients in 0..p - 1 for which p is good.
func groupsModulo(p int) []fieldGroup {
	var list []fieldGroup
	for a := range p {
		for b := range p {
			if c := curveOf(a, b); isLegalCurve(c) && isGood(c, p) {
				list = append(list, groupOf(c, p))
			}
		}
	}
	return list
}

// fieldCurves returns curves of all sizes: with and without points of order two, with A or B equal to 0, and at the ends of the ranges.
func fieldCurves() []impl.Curve {
	list := []impl.Curve{
		curveOf(-16, 16), curveOf(-1, 0), curveOf(0, 1), curveOf(1, 0), curveOf(0, -2), curveOf(-7, 6), curveOf(5, 7), curveOf(-43, 166), curveOf(999, -9998), curveOf(-637, 8191),
	}
	for _, a := range []int{-mostCurveA, 0, mostCurveA} {
		for _, b := range []int{-mostCurveB, mostCurveB} {
			list = append(list, curveOf(a, b))
		}
	}
	return list
}

// sampleGroups returns groups of these curves modulo primes of all sizes, the greatest ones among them.
var sampleGroups = sync.OnceValue(func() []fieldGroup {
	var list []fieldGroup
	for i, c := range fieldCurves() {
		for k, p := range goodPrimes(c, mostFieldPrime) {
			if p <= 13 || p >= 197 || (i+k)%7 == 0 {
				list = append(list, groupOf(c, p))
			}
		}
	}
	return list
})

// primeFor is a number with a curve for which it is no prime that a call may have.
type primeFor struct {
	curve impl.Curve
	p     int
}

// unfitPrimes returns curves with numbers that no function of the chapter takes: 2 and 3, bad primes, numbers that are no primes, and primes beyond MaxPrime.
func unfitPrimes() []primeFor {
	var list []primeFor
	for _, c := range fieldCurves() {
		for _, p := range invalidPrimes() {
			list = append(list, primeFor{c, p})
		}
		for _, p := range allPrimes() {
			if !isGood(c, p) {
				list = append(list, primeFor{c, p})
			}
		}
	}
	list = append(list, primeFor{curveOf(5, 5), 5}, primeFor{curveOf(-16, 16), 37})
	for _, p := range []int{5, 7, 37, 197, mostFieldPrime, leastBeyondField, greatestPrime} {
		list = append(list, badFor(p)...)
	}
	return list
}

// badFor returns curves for which a prime is bad: some with a node, and some whose coefficients it divides.
func badFor(p int) []primeFor {
	return []primeFor{{curveOf(-3, 2+p), p}, {curveOf(-3, 2-p), p}, {curveOf(-p, 2*p), p}, {curveOf(0, p), p}, {curveOf(p, 0), p}}
}

// primesBeyondField returns curves with good primes that are greater than MaxFieldPrime.
func primesBeyondField() []primeFor {
	var list []primeFor
	for _, c := range fieldCurves() {
		for _, p := range goodPrimes(c, greatestPrime) {
			if p == leastBeyondField || p > mostFieldPrime && p%16 == 1 || p > 970 {
				list = append(list, primeFor{c, p})
			}
		}
	}
	return list
}

// noPoints returns lists that are no points: of one, three and more numbers, with coordinates that are no residues, and places off the curve.
func (g fieldGroup) noPoints() [][]int {
	list := [][]int{{0}, {1}, {-1}, {g.p}, {0, 0, 0}, {0, 0, 1}, {math.MinInt}, {math.MaxInt, math.MinInt, 0}, make([]int, 1000)}
	for _, n := range []int{math.MinInt, math.MinInt + 1, -1 << 32, -g.p, -1, g.p, g.p + 1, 1 << 32, math.MaxInt - 1, math.MaxInt} {
		list = append(list, []int{n, 0}, []int{0, n}, []int{n, n}, []int{n, 1}, []int{1, n}, []int{n, math.MinInt})
	}
	for _, s := range g.somePoints() {
		if len(s) == 0 {
			continue
		}
		x, y := s[0], s[1]
		list = append(list, []int{x}, []int{y}, []int{x, y, 0}, []int{x, y, 1}, []int{x, y, x, y})
		for _, by := range []int{-2 * g.p, -g.p, g.p, 3 * g.p, 1 << 32 * g.p} {
			list = append(list, []int{x + by, y}, []int{x, y + by}, []int{x + by, y - by})
		}
		for _, place := range [][]int{{x, (y + 1) % g.p}, {(x + 1) % g.p, y}, {y, x}} {
			if !g.has(place) {
				list = append(list, place)
			}
		}
	}
	return list
}

// checkField compares a point with the one that it should be. What should fail has the empty list.
func checkField(t *testing.T, got []int, ok bool, want []int, fine bool, what ...any) {
	t.Helper()
	if !slices.Equal(got, want) || ok != fine {
		t.Errorf("%v: got %v, %v, want %v, %v", what, got, ok, want, fine)
	}
}

// checkShape compares the shape of a group with the one that it should be.
func checkShape(t *testing.T, c impl.Curve, p int, m int, n int, fine bool) {
	t.Helper()
	gotM, gotN, ok := impl.GroupShape(c, p)
	if gotM != m || gotN != n || ok != fine {
		t.Errorf("the shape of %v modulo %d: got %d, %d, %v, want %d, %d, %v", c, p, gotM, gotN, ok, m, n, fine)
	}
}
