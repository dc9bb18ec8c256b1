package tests

import (
	"math"
	"math/big"
	"slices"
	"testing"

	"loop.example/g01004/impl"
)

func TestFiniteExample(t *testing.T) {
	for _, known := range []struct {
		curve       impl.Curve
		p, count    int
		first, last int
	}{{curveOf(-16, 16), 5, 8, 1, 8}, {curveOf(-1, 0), 5, 8, 2, 4}, {curveOf(0, 1), 7, 12, 2, 6}} {
		n, ok := impl.CountPoints(known.curve, known.p)
		checkNumber(t, n, ok, known.count, true, known)
		checkShape(t, known.curve, known.p, known.first, known.last, true)
	}
}

func TestGoodPrimes(t *testing.T) {
	list := slices.Concat(fieldCurves(), endCurves(), nearSingularCurves())
	for _, known := range unfitPrimes() {
		list = append(list, known.curve)
	}
	slices.SortFunc(list, func(c impl.Curve, d impl.Curve) int { return 100000*(c.A-d.A) + c.B - d.B })
	good, bad := 0, 0
	for _, c := range slices.Compact(list) {
		for _, p := range allPrimes() {
			is, ok := impl.IsGoodPrime(c, p)
			checkBool(t, is, ok, isGood(c, p), true, c, p)
			if is {
				good++
			} else if p > 3 {
				bad++
			}
		}
		for _, p := range invalidPrimes() {
			is, ok := impl.IsGoodPrime(c, p)
			checkBool(t, is, ok, false, false, c, p)
		}
	}
	if good < 5000 || bad < 200 {
		t.Error("too few primes", good, bad)
	}
}

func TestGoodPrimesAtTheEnds(t *testing.T) {
	for _, p := range []int{2, 3} {
		for _, c := range smallCurves() {
			is, ok := impl.IsGoodPrime(c, p)
			checkBool(t, is, ok, false, true, c, p)
		}
	}
	for _, p := range []int{5, 7, mostFieldPrime, leastBeyondField, greatestPrime} {
		is, ok := impl.IsGoodPrime(curveOf(0, 1), p)
		checkBool(t, is, ok, true, true, p)
		for _, known := range badFor(p) {
			is, ok = impl.IsGoodPrime(known.curve, p)
			checkBool(t, is, ok, false, true, known)
		}
	}
	is, ok := impl.IsGoodPrime(curveOf(0, 1), leastBeyond)
	checkBool(t, is, ok, false, false, leastBeyond)
}

// countByJacobi counts points by the rules of package big.
func countByJacobi(c impl.Curve, p int) int {
	count := p + 1
	for x := range p {
		count += big.Jacobi(big.NewInt(int64(residue(x*x*x+c.A*x+c.B, p))), big.NewInt(int64(p)))
	}
	return count
}

func TestCountsOfPoints(t *testing.T) {
	for _, c := range fieldCurves() {
		for _, p := range goodPrimes(c, greatestPrime) {
			n, ok := impl.CountPoints(c, p)
			checkNumber(t, n, ok, countByJacobi(c, p), true, c, p)
			if trace := p + 1 - n; trace*trace > 4*p {
				t.Error("too far from p + 1", c, p, n)
			}
		}
	}
	for _, p := range []int{5, 7, 11, 13} {
		for _, g := range groupsModulo(p) {
			n, ok := impl.CountPoints(g.curve, p)
			checkNumber(t, n, ok, len(g.points), true, g.curve, p)
		}
	}
	for _, p := range []int{mostFieldPrime, leastBeyondField, 991, greatestPrime} {
		n, ok := impl.CountPoints(curveOf(-16, 16), p)
		checkNumber(t, n, ok, len(groupOf(curveOf(-16, 16), p).points), true, p)
	}
}

func TestListsOfPoints(t *testing.T) {
	for _, g := range slices.Concat(sampleGroups(), groupsModulo(5), groupsModulo(7)) {
		got, ok := impl.PointsModulo(g.curve, g.p)
		if !ok || !slices.EqualFunc(got, g.points, slices.Equal) {
			t.Errorf("%v modulo %d: got %v, %v, want %v", g.curve, g.p, got, ok, g.points)
		}
		n, ok := impl.CountPoints(g.curve, g.p)
		checkNumber(t, n, ok, len(got), true, g.curve, g.p)
		for _, s := range got {
			is, ok := impl.IsPointModulo(g.curve, g.p, s)
			checkBool(t, is, ok, true, true, g.curve, g.p, s)
		}
	}
}

func TestSmallestListsOfPoints(t *testing.T) {
	for _, known := range []struct {
		curve impl.Curve
		p     int
		want  [][]int
	}{
		{curveOf(-16, 16), 5, [][]int{nil, {0, 1}, {0, 4}, {1, 1}, {1, 4}, {3, 0}, {4, 1}, {4, 4}}},
		{curveOf(-1, 0), 5, [][]int{nil, {0, 0}, {1, 0}, {2, 1}, {2, 4}, {3, 2}, {3, 3}, {4, 0}}},
		{curveOf(0, 1), 7, [][]int{nil, {0, 1}, {0, 6}, {1, 3}, {1, 4}, {2, 3}, {2, 4}, {3, 0}, {4, 3}, {4, 4}, {5, 0}, {6, 0}}},
		{curveOf(0, 4), 7, [][]int{nil, {0, 2}, {0, 5}}},
	} {
		got, ok := impl.PointsModulo(known.curve, known.p)
		if !ok || !slices.EqualFunc(got, known.want, slices.Equal) {
			t.Errorf("%v modulo %d: got %v, %v, want %v", known.curve, known.p, got, ok, known.want)
		}
	}
}

func TestAllPlacesModuloSmallPrimes(t *testing.T) {
	for _, p := range []int{5, 7, 11} {
		for _, g := range groupsModulo(p) {
			for x := -p - 1; x <= 2*p+1; x++ {
				for y := -p - 1; y <= 2*p+1; y++ {
					is, ok := impl.IsPointModulo(g.curve, p, []int{x, y})
					checkBool(t, is, ok, g.has([]int{x, y}), true, g.curve, p, x, y)
				}
			}
			for _, s := range [][]int{nil, {}, withSpare(nil)} {
				is, ok := impl.IsPointModulo(g.curve, p, s)
				checkBool(t, is, ok, true, true, g.curve, p, s)
			}
		}
	}
}

func TestAllPlacesModuloTheGreatestPrime(t *testing.T) {
	g := groupOf(curveOf(-16, 16), mostFieldPrime)
	count := 1
	for x := range g.p {
		for y := range g.p {
			is, ok := impl.IsPointModulo(g.curve, g.p, []int{x, y})
			if is != g.has([]int{x, y}) || !ok {
				t.Error(x, y, is, ok)
			}
			if is {
				count++
			}
		}
	}
	n, ok := impl.CountPoints(g.curve, g.p)
	checkNumber(t, n, ok, count, true, g.curve, g.p)
}

func TestListsThatAreNoPoints(t *testing.T) {
	for _, g := range sampleGroups() {
		for _, s := range g.noPoints() {
			is, ok := impl.IsPointModulo(g.curve, g.p, s)
			checkBool(t, is, ok, false, true, g.curve, g.p, s)
		}
	}
}

func TestOppositesModulo(t *testing.T) {
	ofOrderTwo := 0
	for _, g := range sampleGroups() {
		for _, s := range g.points {
			got, ok := impl.OppositeModulo(g.curve, g.p, s)
			checkField(t, got, ok, g.minus(s), true, g.curve, g.p, "minus", s)
			again, ok := impl.OppositeModulo(g.curve, g.p, got)
			checkField(t, again, ok, s, true, g.curve, g.p, "minus", got)
			checkFieldSum(t, g, s, got, nil)
			if len(s) > 0 && slices.Equal(s, got) {
				ofOrderTwo++
				n, ok := impl.OrderModulo(g.curve, g.p, s)
				checkNumber(t, n, ok, 2, true, g.curve, g.p, s)
			}
		}
	}
	if ofOrderTwo < 20 {
		t.Error("too few points of order two", ofOrderTwo)
	}
}

// checkFieldSum compares the sum of two points with the one that it should be, both ways.
func checkFieldSum(t *testing.T, g fieldGroup, s []int, u []int, want []int) {
	t.Helper()
	got, ok := impl.AddModulo(g.curve, g.p, s, u)
	checkField(t, got, ok, want, true, g.curve, g.p, s, "plus", u)
	got, ok = impl.AddModulo(g.curve, g.p, u, s)
	checkField(t, got, ok, want, true, g.curve, g.p, u, "plus", s)
}

func TestAllSumsModuloSmallPrimes(t *testing.T) {
	for _, g := range slices.Concat(groupsModulo(5), groupsModulo(7), groupsModulo(11)) {
		for _, s := range g.points {
			for _, u := range g.points {
				checkFieldSum(t, g, s, u, g.plus(s, u))
			}
		}
	}
}

func TestAllSumsModuloTheGreatestPrime(t *testing.T) {
	for _, c := range []impl.Curve{curveOf(-16, 16), curveOf(-1, 0)} {
		g := groupOf(c, mostFieldPrime)
		for i, s := range g.points {
			for _, u := range g.points[i:] {
				checkFieldSum(t, g, s, u, g.plus(s, u))
			}
		}
	}
}

func TestSumsModulo(t *testing.T) {
	for _, g := range sampleGroups() {
		for _, s := range g.points {
			checkFieldSum(t, g, s, nil, s)
			checkFieldSum(t, g, s, s, g.plus(s, s))
			checkFieldSum(t, g, s, g.minus(s), nil)
		}
		for _, s := range g.somePoints() {
			for _, u := range g.somePoints() {
				checkFieldSum(t, g, s, u, g.plus(s, u))
			}
		}
	}
}

func TestSpecialSumsModulo(t *testing.T) {
	for _, known := range []struct {
		curve      impl.Curve
		p          int
		s, u, want []int
	}{
		// Modulo 5, twice (0, 4) is (4, 4), and three times it is (-4, -4), as it is for fractions.
		{curveOf(-16, 16), 5, []int{0, 4}, []int{0, 4}, []int{4, 4}}, {curveOf(-16, 16), 5, []int{0, 4}, []int{4, 4}, []int{1, 1}},
		// A point of order two and itself, and two different ones.
		{curveOf(-1, 0), 5, []int{0, 0}, []int{0, 0}, nil}, {curveOf(-1, 0), 5, []int{0, 0}, []int{1, 0}, []int{4, 0}}, {curveOf(-1, 0), 5, []int{4, 0}, []int{1, 0}, []int{0, 0}},
		// 0, 0 is not infinity.
		{curveOf(-1, 0), 5, []int{0, 0}, nil, []int{0, 0}}, {curveOf(-1, 0), 5, nil, nil, nil}, {curveOf(1, 0), mostFieldPrime, []int{0, 0}, []int{0, 0}, nil},
		// The tangent at a point of order three meets the curve nowhere else.
		{curveOf(0, 1), 7, []int{0, 1}, []int{0, 1}, []int{0, 6}}, {curveOf(0, 4), 7, []int{0, 2}, []int{0, 2}, []int{0, 5}}, {curveOf(0, 4), 7, []int{0, 2}, []int{0, 5}, nil},
		{curveOf(0, 1), mostFieldPrime, []int{2, 3}, []int{2, 3}, []int{0, 1}}, {curveOf(0, 1), mostFieldPrime, []int{2, 3}, []int{0, 1}, []int{198, 0}}, {curveOf(0, 1), mostFieldPrime, []int{2, 3}, []int{0, 198}, []int{2, 196}},
	} {
		checkFieldSum(t, groupOf(known.curve, known.p), known.s, known.u, known.want)
	}
}

func TestOppositesUndoSums(t *testing.T) {
	for _, g := range slices.Concat(sampleGroups(), groupsModulo(5), groupsModulo(13)) {
		for _, s := range g.somePoints() {
			for _, u := range g.somePoints() {
				sum, ok := impl.AddModulo(g.curve, g.p, s, u)
				if !ok || !g.has(sum) {
					t.Error(g.curve, g.p, s, u, "have no sum", sum, ok)
				}
				back, ok := impl.OppositeModulo(g.curve, g.p, u)
				got, okToo := impl.AddModulo(g.curve, g.p, sum, back)
				checkField(t, got, ok && okToo, s, true, g.curve, g.p, s, u)
			}
		}
	}
}

func TestSumsModuloAreAssociative(t *testing.T) {
	for _, c := range fieldCurves() {
		for _, p := range []int{11, 101, mostFieldPrime} {
			if !isGood(c, p) {
				continue
			}
			list := groupOf(c, p).somePoints()
			for i := range list {
				for k := range list {
					s, u, v := list[i], list[k], list[(3*i+5*k)%len(list)]
					first, _ := impl.AddModulo(c, p, s, u)
					left, ok := impl.AddModulo(c, p, first, v)
					last, _ := impl.AddModulo(c, p, u, v)
					right, okToo := impl.AddModulo(c, p, s, last)
					checkField(t, left, ok, right, okToo, c, p, s, u, v)
				}
			}
		}
	}
}

func TestMultiplesModulo(t *testing.T) {
	for _, g := range slices.Concat(sampleGroups(), groupsModulo(5), groupsModulo(7)) {
		for _, s := range g.somePoints() {
			multiples := g.multiplesOf(s)
			order := len(multiples)
			list := []int{mostTimes, mostTimes - 1, mostTimes / 2, mostTimes / order * order, mostTimes/order*order - 1, 1 << 29, 1<<29 - 1, 1000, 1001, g.p, g.p * g.p}
			for n := range 9 {
				list = append(list, n, order-n, order+n, 2*order+n)
			}
			for _, n := range list {
				for _, m := range []int{n, -n} {
					got, ok := impl.TimesModulo(g.curve, g.p, m, s)
					checkField(t, got, ok, multiples[residue(m, order)], true, g.curve, g.p, m, "times", s)
				}
			}
			for _, n := range []int{mostTimes + 1, mostTimes + 2, 1 << 30, 1 << 32, math.MaxInt - 1, math.MaxInt} {
				for _, m := range []int{n, -n, -n - 1} {
					got, ok := impl.TimesModulo(g.curve, g.p, m, s)
					checkField(t, got, ok, nil, false, g.curve, g.p, m, "times", s)
				}
			}
		}
	}
}

func TestAllMultiplesModulo(t *testing.T) {
	for _, known := range []primeFor{{curveOf(-16, 16), 5}, {curveOf(-16, 16), mostFieldPrime}, {curveOf(-1, 0), 193}, {curveOf(0, 1), 7}} {
		g := groupOf(known.curve, known.p)
		for _, s := range g.somePoints() {
			sum := []int{}
			for n := range 2*len(g.points) + 2 {
				got, ok := impl.TimesModulo(g.curve, g.p, n, s)
				checkField(t, got, ok, sum, true, g.curve, g.p, n, "times", s)
				got, ok = impl.TimesModulo(g.curve, g.p, -n, s)
				checkField(t, got, ok, g.minus(sum), true, g.curve, g.p, -n, "times", s)
				sum = g.plus(sum, s)
			}
		}
	}
}

func TestOrdersModulo(t *testing.T) {
	for _, g := range slices.Concat(sampleGroups(), groupsModulo(5), groupsModulo(7), groupsModulo(11)) {
		orders := g.orders()
		for i, s := range g.points {
			n, ok := impl.OrderModulo(g.curve, g.p, s)
			checkNumber(t, n, ok, orders[i], true, g.curve, g.p, "the order of", s)
			if n < 1 || len(g.points)%n != 0 {
				t.Error(g.curve, g.p, s, "the order", n, "should divide", len(g.points))
			}
			got, ok := impl.TimesModulo(g.curve, g.p, n, s)
			checkField(t, got, ok, nil, true, g.curve, g.p, n, "times", s)
			got, ok = impl.TimesModulo(g.curve, g.p, len(g.points), s)
			checkField(t, got, ok, nil, true, g.curve, g.p, len(g.points), "times", s)
		}
	}
}

func TestShapesOfGroups(t *testing.T) {
	cyclic, others := 0, 0
	for _, g := range slices.Concat(sampleGroups(), groupsModulo(5), groupsModulo(7), groupsModulo(11), groupsModulo(13)) {
		n := slices.Max(g.orders())
		m := len(g.points) / n
		if len(g.points)%n != 0 || n%m != 0 {
			t.Error("no shape", g.curve, g.p, m, n)
		}
		checkShape(t, g.curve, g.p, m, n, true)
		if m == 1 {
			cyclic++
		} else {
			others++
		}
	}
	if cyclic < 100 || others < 50 {
		t.Error("too few shapes", cyclic, others)
	}
}

func TestKnownShapes(t *testing.T) {
	for _, known := range []struct {
		curve impl.Curve
		p     int
		m, n  int
	}{
		{curveOf(0, 4), 7, 1, 3}, {curveOf(0, 2), 7, 3, 3}, {curveOf(1, 0), 5, 2, 2}, {curveOf(4, 0), 5, 2, 4}, {curveOf(0, 1), 5, 1, 6},
		{curveOf(-1, 0), 7, 2, 4}, {curveOf(1, 0), 7, 1, 8}, {curveOf(1, 0), 17, 4, 4}, {curveOf(0, 1), 199, 2, 114},
	} {
		g := groupOf(known.curve, known.p)
		if slices.Max(g.orders()) != known.n || len(g.points) != known.m*known.n {
			t.Error("no shape for this test", known)
		}
		checkShape(t, known.curve, known.p, known.m, known.n, true)
	}
}

func TestCountsOfOrders(t *testing.T) {
	for _, g := range slices.Concat(sampleGroups(), groupsModulo(5), groupsModulo(7)) {
		orders := g.orders()
		m, greatest, _ := impl.GroupShape(g.curve, g.p)
		list := []int{1, 2, 3, 4, 5, 6, 7, 8, 12, 60, m, m * m, greatest, m * greatest, min(3*greatest, mostCounted), 720, mostCounted - 1, mostCounted}
		for _, n := range list {
			want := 0
			for _, order := range orders {
				if n%order == 0 {
					want++
				}
			}
			got, ok := impl.CountOrders(g.curve, g.p, n)
			checkNumber(t, got, ok, want, true, g.curve, g.p, "times", n)
		}
		checkOrdersOutOfRange(t, g)
	}
}

// checkOrdersOutOfRange checks that no points are counted for numbers outside 1..1000.
func checkOrdersOutOfRange(t *testing.T, g fieldGroup) {
	t.Helper()
	for _, n := range []int{math.MinInt, math.MinInt + 1, -mostCounted, -2, -1, 0, mostCounted + 1, mostCounted + 2, 1 << 32, 1<<32 + 1, math.MaxInt - 1, math.MaxInt} {
		got, ok := impl.CountOrders(g.curve, g.p, n)
		checkNumber(t, got, ok, 0, false, g.curve, g.p, "times", n)
	}
}

func TestAllCountsOfOrders(t *testing.T) {
	for _, known := range []primeFor{{curveOf(-16, 16), 5}, {curveOf(-1, 0), 5}, {curveOf(0, 1), 7}, {curveOf(0, 2), 7}, {curveOf(1, 0), 17}, {curveOf(-7, 6), 31}} {
		orders := groupOf(known.curve, known.p).orders()
		for n := 1; n <= mostCounted; n++ {
			want := 0
			for _, order := range orders {
				if n%order == 0 {
					want++
				}
			}
			got, ok := impl.CountOrders(known.curve, known.p, n)
			checkNumber(t, got, ok, want, true, known, "times", n)
		}
	}
}

// reduced returns a point of a curve modulo a prime.
func reduced(p impl.Point, q int) []int {
	if p.E%q == 0 {
		return nil
	}
	inverse := new(big.Int).ModInverse(big.NewInt(int64(p.E)), big.NewInt(int64(q)))
	by := int(inverse.Int64())
	return []int{residue(p.X*by*by, q), residue(p.Y*residue(by*by*by, q), q)}
}

func TestSumsOfFractionsReduce(t *testing.T) {
	compared := 0
	for _, pointed := range pointedCurves() {
		c := pointed.curve
		for _, q := range []int{5, 7, 11, 13, 101, 197, mostFieldPrime} {
			if !isGood(c, q) {
				continue
			}
			for i := 0; i < len(pointed.points); i += 1 + len(pointed.points)/12 {
				for k := 0; k < len(pointed.points); k += 1 + len(pointed.points)/9 {
					s, u := pointed.points[i], pointed.points[k]
					sum, fine := sumOf(c, s, u)
					if !fine {
						continue
					}
					compared++
					got, ok := impl.AddModulo(c, q, reduced(s, q), reduced(u, q))
					checkField(t, got, ok, reduced(sum, q), true, c, q, s, u)
				}
			}
		}
	}
	if compared < 5000 {
		t.Error("too few sums", compared)
	}
}

func TestCongruentCurvesHaveTheSamePoints(t *testing.T) {
	for _, p := range []int{5, 7, 13, 101, mostFieldPrime} {
		for _, c := range []impl.Curve{curveOf(1, 4), curveOf(-4, 2), curveOf(0, 1), curveOf(-2, 0)} {
			want, ok := impl.PointsModulo(c, p)
			m, n, _ := impl.GroupShape(c, p)
			if !ok || m*n != len(want) {
				t.Error("no curve for this test", c, p)
			}
			for _, by := range [][2]int{{1, 0}, {-1, 0}, {0, 1}, {0, -1}, {3, -4}, {-4, 5}, {4, 40}, {-4, -40}} {
				d := curveOf(c.A+by[0]*p, c.B+by[1]*p)
				got, ok := impl.PointsModulo(d, p)
				if !ok || !slices.EqualFunc(got, want, slices.Equal) {
					t.Error(d, "should have the points of", c, "modulo", p)
				}
				checkShape(t, d, p, m, n, true)
				for i, s := range got {
					u := got[len(got)-1-i]
					first, _ := impl.AddModulo(c, p, s, u)
					sum, ok := impl.AddModulo(d, p, s, u)
					checkField(t, sum, ok, first, true, c, d, p, s, u)
				}
			}
		}
	}
}
