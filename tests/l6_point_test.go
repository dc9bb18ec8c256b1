package tests

import (
	"math"
	"math/big"
	"slices"
	"testing"

	"loop.example/g01004/impl"
)

func TestPointExample(t *testing.T) {
	c := curveOf(-16, 16)
	p, ok := impl.ParsePoint(c, "(0,4)")
	checkPoint(t, p, ok, pointOf(0, 4, 1), true, "parsed")
	for n, want := range map[int]string{2: "(4,4)", 3: "(-4,-4)"} {
		q, ok := impl.MultiplePoint(c, p, n)
		if text, fine := impl.PointText(c, q); text != want || !ok || !fine {
			t.Errorf("%d times %v: got %q, %v, %v, want %q", n, p, text, ok, fine, want)
		}
	}
}

func TestPointsAreOnTheirCurves(t *testing.T) {
	for _, pointed := range pointedCurves() {
		c := pointed.curve
		for _, p := range pointed.points {
			if !impl.IsPointOf(c, p) {
				t.Error(c, "should have", p)
			}
			for _, q := range []impl.Point{
				pointOf(p.X+1, p.Y, p.E), pointOf(p.X-1, p.Y, p.E), pointOf(-p.X, p.Y, p.E), pointOf(p.X, p.Y+1, p.E), pointOf(p.X, p.Y-1, p.E), pointOf(p.X, p.Y, p.E+1), pointOf(p.X, p.Y, p.E-1), pointOf(p.X, p.Y, -p.E),
				pointOf(4*p.X, 8*p.Y, 2*p.E), pointOf(9*p.X, -27*p.Y, 3*p.E), pointOf(p.Y, p.X, p.E),
			} {
				if impl.IsPointOf(c, q) != isLegalPoint(c, q) {
					t.Error(c, q, "should be a point:", isLegalPoint(c, q))
				}
			}
			for _, other := range []impl.Curve{curveOf(c.A+1, c.B), curveOf(c.A, c.B-1), curveOf(-c.A, c.B), curveOf(c.A, -c.B), curveOf(-16, 16), {}} {
				if impl.IsPointOf(other, p) != isLegalPoint(other, p) {
					t.Error(other, p, "should be a point:", isLegalPoint(other, p))
				}
			}
		}
	}
}

func TestAllSmallPlaces(t *testing.T) {
	for _, c := range []impl.Curve{curveOf(-16, 16), curveOf(0, 1), curveOf(-1, 0), curveOf(1, 0), curveOf(0, 17), curveOf(-7, 10), curveOf(-3, 2), {}} {
		for e := -3; e <= 5; e++ {
			for x := -30; x <= 30; x++ {
				for y := -30; y <= 30; y++ {
					if p := pointOf(x, y, e); impl.IsPointOf(c, p) != isLegalPoint(c, p) {
						t.Error(c, p, "should be a point:", isLegalPoint(c, p))
					}
				}
			}
		}
	}
}

func TestPointsAtTheEndsOfTheRanges(t *testing.T) {
	for _, known := range pointsAtTheEnds() {
		for _, p := range []impl.Point{known.point, minus(known.point)} {
			if !impl.IsPointOf(known.curve, p) || !isLegalPoint(known.curve, p) {
				t.Error(known.curve, "should have", p)
			}
			got, ok := impl.NegatePoint(known.curve, p)
			checkPoint(t, got, ok, minus(p), true, known.curve, "minus", p)
			checkSum(t, known.curve, p, infinity, p, true)
			checkSum(t, known.curve, p, minus(p), infinity, true)
		}
	}
}

func TestPlacesThatAreNoPoints(t *testing.T) {
	for _, known := range placesOutOfRange() {
		if !fulfils(known.curve, known.point) || !isLegalCurve(known.curve) {
			t.Error("no place for this test", known)
		}
		if impl.IsPointOf(known.curve, known.point) {
			t.Error(known.curve, "should not have", known.point)
		}
	}
	for _, known := range placesThatWrap() {
		c, p := known.curve, known.point
		square := p.E * p.E
		if right := p.X*p.X*p.X + c.A*p.X*square*square + c.B*square*square*square; p.Y*p.Y != right || fulfils(c, p) || !isLegalCurve(c) {
			t.Error("no place for this test", known)
		}
		if impl.IsPointOf(c, p) {
			t.Error(c, "should not have", p)
		}
	}
	for _, pointed := range pointedCurves() {
		for _, p := range invalidPoints() {
			if impl.IsPointOf(pointed.curve, p) {
				t.Error(pointed.curve, "should not have", p)
			}
		}
	}
}

func TestOppositePoints(t *testing.T) {
	for _, pointed := range pointedCurves() {
		c := pointed.curve
		for _, p := range pointed.points {
			got, ok := impl.NegatePoint(c, p)
			checkPoint(t, got, ok, minus(p), true, c, "minus", p)
			checkSum(t, c, p, got, infinity, true)
			again, ok := impl.NegatePoint(c, got)
			checkPoint(t, again, ok, p, true, c, "minus", got)
		}
	}
}

func TestSumsOfPoints(t *testing.T) {
	sums, tooLarge := 0, 0
	for _, pointed := range pointedCurves() {
		for p, q := range pointed.pairs {
			want, fine := sumOf(pointed.curve, p, q)
			checkSum(t, pointed.curve, p, q, want, fine)
			if fine {
				sums++
			} else {
				tooLarge++
			}
		}
	}
	if sums < 5000 || tooLarge < 5000 {
		t.Error("too few sums", sums, tooLarge)
	}
}

func TestSumsTurnBack(t *testing.T) {
	for _, pointed := range pointedCurves() {
		c := pointed.curve
		for p, q := range pointed.pairs {
			sum, ok := impl.AddPoints(c, p, q)
			if !ok {
				continue
			}
			if !isLegalPoint(c, sum) {
				t.Error(c, p, "plus", q, "is no point", sum)
			}
			checkSum(t, c, sum, minus(q), p, true)
			checkSum(t, c, sum, minus(p), q, true)
			checkSum(t, c, minus(p), minus(q), minus(sum), true)
		}
	}
}

func TestSumsAreAssociative(t *testing.T) {
	compared := 0
	for _, pointed := range pointedCurves() {
		c := pointed.curve
		for p, q := range pointed.pairs {
			first, ok := impl.AddPoints(c, p, q)
			if !ok {
				continue
			}
			for i := 0; i < len(pointed.points); i += 1 + len(pointed.points)/10 {
				r := pointed.points[i]
				last, fine := impl.AddPoints(c, q, r)
				left, ok := impl.AddPoints(c, first, r)
				right, okToo := impl.AddPoints(c, p, last)
				if fine && ok && okToo {
					compared++
					checkPoint(t, left, ok, right, true, c, p, q, r)
				}
			}
		}
	}
	if compared < 5000 {
		t.Error("too few sums", compared)
	}
}

func TestSpecialSums(t *testing.T) {
	for _, known := range []struct {
		curve impl.Curve
		p, q  impl.Point
		want  impl.Point
	}{
		{curveOf(-16, 16), pointOf(0, 4, 1), pointOf(4, 4, 1), pointOf(-4, -4, 1)}, {curveOf(-16, 16), pointOf(0, 4, 1), pointOf(0, 4, 1), pointOf(4, 4, 1)}, {curveOf(-16, 16), pointOf(0, 4, 1), pointOf(-4, -4, 1), pointOf(8, -20, 1)}, {curveOf(-16, 16), pointOf(4, 4, 1), pointOf(4, 4, 1), pointOf(8, -20, 1)},
		{curveOf(0, 1), pointOf(2, 3, 1), pointOf(2, 3, 1), pointOf(0, 1, 1)}, {curveOf(0, 1), pointOf(2, 3, 1), pointOf(0, 1, 1), pointOf(-1, 0, 1)}, {curveOf(0, 1), pointOf(0, 1, 1), pointOf(0, 1, 1), pointOf(0, -1, 1)}, {curveOf(0, 17), pointOf(-2, 3, 1), pointOf(-1, 4, 1), pointOf(4, -9, 1)},
		{curveOf(-25, 0), pointOf(-4, 6, 1), pointOf(-4, 6, 1), pointOf(1681, -62279, 12)},
		// Points of order two, and opposite ones.
		{curveOf(0, 1), pointOf(-1, 0, 1), pointOf(-1, 0, 1), infinity}, {curveOf(-1, 0), pointOf(0, 0, 1), pointOf(0, 0, 1), infinity}, {curveOf(-1, 0), pointOf(-1, 0, 1), pointOf(1, 0, 1), pointOf(0, 0, 1)}, {curveOf(-1, 0), pointOf(0, 0, 1), pointOf(1, 0, 1), pointOf(-1, 0, 1)},
		{curveOf(-16, 16), pointOf(0, 4, 1), pointOf(0, -4, 1), infinity}, {curveOf(1, -9983), pointOf(8721, 160519, 20), pointOf(8721, -160519, 20), infinity}, {curveOf(-16, 16), infinity, infinity, infinity}, {curveOf(1000, -9999), infinity, infinity, infinity},
		// Sums at the ends of the ranges.
		{curveOf(0, 561), pointOf(-8, -7, 1), pointOf(-8, -7, 1), pointOf(10000, 1000033, 7)}, {curveOf(0, 561), pointOf(25, 227, 2), pointOf(100, -1187, 3), pointOf(10000, 1000033, 7)}, {curveOf(-1, 10000), pointOf(1, -100, 1), pointOf(-1, 100, 1), pointOf(10000, 1000000, 1)}, {curveOf(200, 361), pointOf(0, -19, 1), pointOf(0, -19, 1), pointOf(10000, 1130321, 19)},
		{curveOf(4, -8201), pointOf(141, 1672, 1), pointOf(61, 468, 1), pointOf(9801, 650299, 20)}, {curveOf(4, -45), pointOf(5, -10, 1), pointOf(5, -10, 1), pointOf(2241, 99039, 20)}, {curveOf(4, 61), pointOf(3, 10, 1), pointOf(3, 10, 1), pointOf(-1439, 1809, 20)},
		// The slopes 51253/5780 and 44431/4446, whose squares are no fractions, and one with the greatest Den of all: 6460.
		{curveOf(262, -4647), pointOf(5969, 480748, 17), pointOf(7121, 601831, 20), pointOf(8841, -879936, 19)}, {curveOf(-155, 2327), pointOf(9307, 861311, 17), pointOf(1201, -247663, 18), pointOf(8119, -693299, 19)}, {curveOf(-3, 5303), pointOf(5401, 703101, 20), pointOf(-341, 357837, 17), pointOf(-4069, -428609, 19)},
	} {
		checkSum(t, known.curve, known.p, known.q, known.want, true)
		checkSum(t, known.curve, minus(known.p), minus(known.q), minus(known.want), true)
		want, fine := sumOf(known.curve, known.p, known.q)
		checkPoint(t, want, fine, known.want, true, "this test's", known)
	}
}

func TestSumsThatAreTooLarge(t *testing.T) {
	for _, known := range []struct {
		curve impl.Curve
		p, q  impl.Point
		want  impl.Point
	}{
		// Only X is too large.
		{curveOf(-1, 2500), pointOf(0, -50, 1), pointOf(-1, 50, 1), pointOf(10001, 1000150, 1)}, {curveOf(0, -7501), pointOf(185, 2419, 2), pointOf(53, -376, 1), pointOf(10001, 1000150, 1)}, {curveOf(4, 6816), pointOf(8054, -830452, 17), pointOf(6, 84, 1), pointOf(10001, 1003751, 10)}, {curveOf(-13, -1388), pointOf(16, -50, 1), pointOf(16, -50, 1), pointOf(10001, 943751, 20)},
		{curveOf(-260, 9718), pointOf(57, -755, 2), pointOf(57, -755, 2), pointOf(-10031, 172953, 20)}, {curveOf(-291, 9430), pointOf(257, 46719, 8), pointOf(593, 14247, 4), pointOf(-10111, 201537, 20)},
		// Only E is.
		{curveOf(4, 441), pointOf(0, -21, 1), pointOf(0, -21, 1), pointOf(4, 194489, 21)}, {curveOf(4, 425), pointOf(2, -21, 1), pointOf(2, -21, 1), pointOf(-1700, 173825, 21)}, {curveOf(4, -8871), pointOf(32, 155, 1), pointOf(200, 2827, 1), pointOf(9244, 190457, 21)}, {curveOf(4, -4704), pointOf(509, -7723, 5), pointOf(206, -2956, 1), pointOf(7366, 44164, 21)},
		// Both are.
		{curveOf(-108, 9409), pointOf(42, 281, 1), pointOf(0, 97, 1), pointOf(-10058, 27019, 21)},
	} {
		checkSum(t, known.curve, known.p, known.q, infinity, false)
		got, ok := impl.AreCollinear(known.curve, known.p, known.q, known.p)
		checkBool(t, got, ok, false, false, known.curve, known.p, known.q, "on a line with", known.p)
		sum := exact(known.p).plus(known.curve, exact(known.q))
		if want := exact(known.want); !isLegalPoint(known.curve, known.p) || !isLegalPoint(known.curve, known.q) || sum.x.Cmp(want.x) != 0 || sum.y.Cmp(want.y) != 0 {
			t.Error("this test's sum is wrong", known)
		}
	}
}

func TestDoubledPoints(t *testing.T) {
	for _, pointed := range pointedCurves() {
		for _, p := range pointed.points {
			want, fine := sumOf(pointed.curve, p, p)
			got, ok := impl.DoublePoint(pointed.curve, p)
			checkPoint(t, got, ok, want, fine, pointed.curve, "twice", p)
		}
	}
}

// checkMultiples compares all multiples of a point with the ones that they should be.
func checkMultiples(t *testing.T, c impl.Curve, p impl.Point) {
	t.Helper()
	wanted := multiplesOf(c, p, mostMultiple)
	got, ok := impl.MultiplePoint(c, p, 0)
	checkPoint(t, got, ok, infinity, true, c, "0 times", p)
	for n := 1; n <= mostMultiple; n++ {
		var want impl.Point
		var list []impl.Point
		fine := n <= len(wanted)
		if fine {
			want, list = wanted[n-1], wanted[:n]
		}
		got, ok := impl.MultiplePoint(c, p, n)
		checkPoint(t, got, ok, want, fine, c, n, "times", p)
		got, ok = impl.MultiplePoint(c, p, -n)
		checkPoint(t, got, ok, minus(want), fine, c, -n, "times", p)
		all, ok := impl.MultiplesOf(c, p, n)
		checkPoints(t, all, ok, list, fine, c, n, "multiples of", p)
	}
}

func TestMultiples(t *testing.T) {
	for _, pointed := range pointedCurves() {
		for _, p := range pointed.points {
			checkMultiples(t, pointed.curve, p)
		}
	}
}

func TestMultiplesOutOfRangeFail(t *testing.T) {
	beyond := []int{mostMultiple + 1, mostMultiple + 2, 24, 1 << 32, 1<<32 + 1, 1 << 62, math.MaxInt - 1, math.MaxInt, math.MinInt, math.MinInt + 1, -1 << 32, -24, -mostMultiple - 2, -mostMultiple - 1}
	for _, pointed := range pointedCurves() {
		for _, p := range pointed.points {
			for _, n := range beyond {
				got, ok := impl.MultiplePoint(pointed.curve, p, n)
				checkPoint(t, got, ok, infinity, false, pointed.curve, n, "times", p)
			}
			for _, n := range append(beyond, 0, -1, -2, -mostMultiple) {
				all, ok := impl.MultiplesOf(pointed.curve, p, n)
				checkPoints(t, all, ok, nil, false, pointed.curve, n, "multiples of", p)
			}
		}
	}
}

func TestMultiplesWithNoPointOnTheWay(t *testing.T) {
	for _, known := range []struct {
		curve impl.Curve
		point impl.Point
		gap   int
		n     int
		want  impl.Point
	}{
		{curveOf(-3, 5326), pointOf(23, 132, 1), 5, 6, pointOf(6102, 595174, 17)}, {curveOf(-11, 1094), pointOf(-5, 32, 1), 7, 8, pointOf(8206, 748646, 15)}, {curveOf(21, 486), pointOf(3, 24, 1), 9, 10, pointOf(2617, -135187, 8)},
		{curveOf(37, 4982), pointOf(19, 112, 1), 5, 6, pointOf(1649, 577143, 20)}, {curveOf(-57, 2081), pointOf(37, 225, 1), 11, 12, pointOf(-767, -81665, 12)}, {curveOf(-67, -926), pointOf(53, 380, 1), 7, 8, pointOf(4841, -47861, 20)},
	} {
		sum := ratPoint{}
		for range known.n {
			sum = sum.plus(known.curve, exact(known.point))
		}
		want, fine := sum.bounded()
		checkPoint(t, want, fine, known.want, isLegalPoint(known.curve, known.want), "this test's", known)
		for n := range mostMultiple + 1 {
			for _, p := range []impl.Point{known.point, minus(known.point)} {
				_, ok := impl.MultiplePoint(known.curve, p, n)
				_, okToo := impl.MultiplePoint(known.curve, p, -n)
				_, okWith := impl.MultiplesOf(known.curve, p, n)
				if fine := n < known.gap; ok != fine || okToo != fine || n > 0 && okWith != fine {
					t.Error(known.curve, n, "times", p, ok, okToo, okWith)
				}
			}
		}
		checkMultiples(t, known.curve, known.point)
		n, ok := impl.OrderOfPoint(known.curve, known.point)
		checkNumber(t, n, ok, 0, false, known.curve, "the order of", known.point)
	}
}

func TestPointsWithAllMultiples(t *testing.T) {
	for _, known := range []knownPoint{
		{curveOf(-4, 4), pointOf(2, 2, 1)}, {curveOf(-12, 20), pointOf(-2, 6, 1)}, {curveOf(-16, 64), pointOf(4, 8, 1)}, {curveOf(-19, 46), pointOf(-1, 8, 1)}, {curveOf(-48, 272), pointOf(16, 60, 1)},
	} {
		if list := multiplesOf(known.curve, known.point, mostMultiple); len(list) != mostMultiple || slices.Contains(list, infinity) {
			t.Error("no point for this test", known, list)
		}
		checkMultiples(t, known.curve, known.point)
		// None of them is infinity, though there may be a point still beyond the range.
		n, ok := impl.OrderOfPoint(known.curve, known.point)
		checkNumber(t, n, ok, 0, false, known.curve, "the order of", known.point)
		got, ok := impl.MultiplePoint(known.curve, known.point, mostMultiple+1)
		checkPoint(t, got, ok, infinity, false, known.curve, "13 times", known.point)
	}
}

func TestOrdersOfPoints(t *testing.T) {
	for _, pointed := range pointedCurves() {
		for _, p := range pointed.points {
			want := 1 + slices.Index(multiplesOf(pointed.curve, p, mostMultiple), infinity)
			got, ok := impl.OrderOfPoint(pointed.curve, p)
			checkNumber(t, got, ok, want, want > 0, pointed.curve, "the order of", p)
		}
	}
}

func TestSpecialOrdersOfPoints(t *testing.T) {
	// No point of a valid curve has one of the orders 8, 10 and 12.
	for _, known := range []struct {
		curve impl.Curve
		point impl.Point
		want  int
	}{
		{curveOf(-16, 16), infinity, 1}, {curveOf(1000, 9999), infinity, 1}, {curveOf(0, 1), pointOf(-1, 0, 1), 2}, {curveOf(-1, 0), pointOf(0, 0, 1), 2}, {curveOf(-1, 0), pointOf(1, 0, 1), 2}, {curveOf(-991, -8190), pointOf(35, 0, 1), 2},
		{curveOf(3, -11), pointOf(3, 5, 1), 3}, {curveOf(0, 1), pointOf(0, 1, 1), 3}, {curveOf(0, -432), pointOf(12, -36, 1), 3}, {curveOf(1, 2), pointOf(1, 2, 1), 4}, {curveOf(4, 0), pointOf(2, 4, 1), 4}, {curveOf(-2, 21), pointOf(2, 5, 1), 4},
		{curveOf(-432, 8208), pointOf(24, 108, 1), 5}, {curveOf(-432, 8208), pointOf(-12, -108, 1), 5}, {curveOf(0, 1), pointOf(2, 3, 1), 6}, {curveOf(0, 729), pointOf(18, -81, 1), 6}, {curveOf(-43, 166), pointOf(3, 8, 1), 7}, {curveOf(-43, 166), pointOf(-5, -16, 1), 7},
		{curveOf(-219, 1654), pointOf(-13, 48, 1), 9}, {curveOf(-219, 1654), pointOf(35, -192, 1), 9}, {curveOf(-219, 1654), pointOf(3, 32, 1), 3},
		{curveOf(-16, 16), pointOf(0, 4, 1), 0}, {curveOf(-25, 0), pointOf(-4, 6, 1), 0}, {curveOf(0, 17), pointOf(5234, 378661, 1), 0}, {curveOf(1, -9983), pointOf(8721, 160519, 20), 0},
	} {
		got, ok := impl.OrderOfPoint(known.curve, known.point)
		checkNumber(t, got, ok, known.want, known.want > 0, known.curve, "the order of", known.point)
		checkMultiples(t, known.curve, known.point)
	}
}

// areOnALine reports whether three different points, none of them infinity, lie on a line, by the determinant of their coordinates.
func areOnALine(p ratPoint, q ratPoint, r ratPoint) bool {
	cross := func(rise *big.Rat, run *big.Rat) *big.Rat { return new(big.Rat).Mul(rise, run) }
	first := cross(new(big.Rat).Sub(q.y, p.y), new(big.Rat).Sub(r.x, p.x))
	return first.Cmp(cross(new(big.Rat).Sub(r.y, p.y), new(big.Rat).Sub(q.x, p.x))) == 0
}

// checkCollinear checks that three points lie on a line, or do not, in each order in which the first two have a sum.
func checkCollinear(t *testing.T, c impl.Curve, p impl.Point, q impl.Point, r impl.Point, want bool) {
	t.Helper()
	for _, order := range [][3]impl.Point{{p, q, r}, {p, r, q}, {q, p, r}, {q, r, p}, {r, p, q}, {r, q, p}} {
		_, fine := sumOf(c, order[0], order[1])
		is, ok := impl.AreCollinear(c, order[0], order[1], order[2])
		checkBool(t, is, ok, want && fine, fine, c, "on a line", order)
	}
}

func TestThreePointsOfALineHaveTheSumInfinity(t *testing.T) {
	lines := 0
	for _, pointed := range pointedCurves() {
		c := pointed.curve
		for p, q := range pointed.pairs {
			sum, fine := sumOf(c, p, q)
			if !fine {
				continue
			}
			lines++
			checkCollinear(t, c, p, q, minus(sum), true)
			checkCollinear(t, c, p, q, sum, sum == minus(sum))
			all, ok := impl.AddPoints(c, sum, minus(sum))
			checkPoint(t, all, ok, infinity, true, c, p, q, minus(sum))
		}
	}
	if lines < 5000 {
		t.Error("too few lines", lines)
	}
}

func TestPointsOffALine(t *testing.T) {
	for _, pointed := range pointedCurves() {
		for p, q := range pointed.pairs {
			for i := 0; i < len(pointed.points); i += 1 + len(pointed.points)/3 {
				r := pointed.points[i]
				if p == infinity || q == infinity || r == infinity || p == q || p == r || q == r {
					continue
				}
				checkCollinear(t, pointed.curve, p, q, r, areOnALine(exact(p), exact(q), exact(r)))
			}
		}
	}
}

func TestSpecialLines(t *testing.T) {
	c := curveOf(-16, 16)
	for _, known := range []struct {
		curve   impl.Curve
		p, q, r impl.Point
		want    bool
	}{
		{c, pointOf(0, 4, 1), pointOf(4, 4, 1), pointOf(-4, 4, 1), true}, {c, pointOf(0, 4, 1), pointOf(4, 4, 1), pointOf(-4, -4, 1), false}, {c, pointOf(0, 4, 1), pointOf(0, 4, 1), pointOf(4, -4, 1), true}, {c, pointOf(0, 4, 1), pointOf(0, 4, 1), pointOf(4, 4, 1), false}, {c, pointOf(0, 4, 1), pointOf(0, 4, 1), pointOf(0, 4, 1), false},
		// A vertical line meets infinity, and three times infinity is infinity.
		{c, pointOf(0, 4, 1), pointOf(0, -4, 1), infinity, true}, {c, pointOf(0, 4, 1), pointOf(4, 4, 1), infinity, false}, {c, pointOf(0, 4, 1), infinity, infinity, false}, {c, infinity, infinity, infinity, true}, {c, pointOf(0, 4, 1), pointOf(0, -4, 1), pointOf(0, 4, 1), false},
		// A tangent may meet a point of order three three times, and at one of order two it is vertical.
		{curveOf(3, -11), pointOf(3, 5, 1), pointOf(3, 5, 1), pointOf(3, 5, 1), true}, {curveOf(0, 1), pointOf(0, 1, 1), pointOf(0, 1, 1), pointOf(0, 1, 1), true}, {curveOf(0, 1), pointOf(0, 1, 1), pointOf(0, 1, 1), pointOf(0, -1, 1), false}, {curveOf(0, 1), pointOf(-1, 0, 1), pointOf(-1, 0, 1), infinity, true}, {curveOf(0, 1), pointOf(-1, 0, 1), pointOf(-1, 0, 1), pointOf(-1, 0, 1), false},
		{curveOf(-1, 0), pointOf(-1, 0, 1), pointOf(0, 0, 1), pointOf(1, 0, 1), true}, {curveOf(0, 1), pointOf(2, 3, 1), pointOf(0, 1, 1), pointOf(-1, 0, 1), true}, {curveOf(0, 1), pointOf(2, 3, 1), pointOf(2, 3, 1), pointOf(0, -1, 1), true},
	} {
		checkCollinear(t, known.curve, known.p, known.q, known.r, known.want)
	}
}

func TestLinesWithPlacesThatAreNoPoints(t *testing.T) {
	c, p, q := curveOf(-16, 16), pointOf(0, 4, 1), pointOf(4, 4, 1)
	for _, none := range append(invalidPoints(), pointOf(-4, 5, 1), pointOf(-16, 32, 2), pointOf(4, 8, 0)) {
		for _, order := range [][3]impl.Point{{p, q, none}, {p, none, q}, {none, p, q}, {p, minus(p), none}, {infinity, infinity, none}, {infinity, none, infinity}, {none, none, infinity}, {none, none, none}} {
			is, ok := impl.AreCollinear(c, order[0], order[1], order[2])
			checkBool(t, is, ok, false, false, c, "on a line", order)
		}
	}
}

func TestSlopes(t *testing.T) {
	for _, pointed := range pointedCurves() {
		for p, q := range pointed.pairs {
			checkSlope(t, pointed.curve, p, q)
		}
	}
}

// checkSlope compares the slope of a line with the one that it should be, both ways.
func checkSlope(t *testing.T, c impl.Curve, p impl.Point, q impl.Point) {
	t.Helper()
	var want impl.Fraction
	fine := false
	if slope := exact(p).slope(c, exact(q)); slope != nil {
		want, fine = fractionOfRat(slope)
	}
	for _, order := range [][2]impl.Point{{p, q}, {q, p}} {
		got, ok := impl.SlopeOf(c, order[0], order[1])
		if got != want || ok != fine {
			t.Errorf("the slope of %v at %v: got %v, %v, want %v, %v", c, order, got, ok, want, fine)
		}
	}
}

func TestSpecialSlopes(t *testing.T) {
	for _, known := range []struct {
		curve impl.Curve
		p, q  impl.Point
		want  impl.Fraction
	}{
		{curveOf(-16, 16), pointOf(0, 4, 1), pointOf(0, 4, 1), frac(-2, 1)}, {curveOf(-16, 16), pointOf(0, 4, 1), pointOf(4, 4, 1), frac(0, 1)}, {curveOf(-16, 16), pointOf(0, -4, 1), pointOf(4, 4, 1), frac(2, 1)}, {curveOf(0, 1), pointOf(0, 1, 1), pointOf(0, 1, 1), frac(0, 1)}, {curveOf(-25, 0), pointOf(-4, 6, 1), pointOf(-4, 6, 1), frac(23, 12)},
		// There is no slope at infinity, nor on a vertical line.
		{curveOf(-16, 16), infinity, infinity, impl.Fraction{}}, {curveOf(-16, 16), infinity, pointOf(0, 4, 1), impl.Fraction{}}, {curveOf(-16, 16), pointOf(0, 4, 1), pointOf(0, -4, 1), impl.Fraction{}}, {curveOf(0, 1), pointOf(-1, 0, 1), pointOf(-1, 0, 1), impl.Fraction{}}, {curveOf(-1, 0), pointOf(0, 0, 1), pointOf(0, 0, 1), impl.Fraction{}}, {curveOf(1, -9983), pointOf(8721, 160519, 20), pointOf(8721, -160519, 20), impl.Fraction{}},
		// Fractions near the limit, whose Num or Den is a little less than it, and slopes that pass it with Num, Den or both.
		{curveOf(-897, 9040), pointOf(4113, 248564, 7), pointOf(-4016, -469648, 15), frac(999992764, 117831945)}, {curveOf(-730, -6503), pointOf(-4823, 97195, 16), pointOf(8916, -90553, 17), frac(-848424123, 999965296)},
		{curveOf(-115, 3097), pointOf(7193, 603077, 14), pointOf(192, -71905, 11), impl.Fraction{}}, {curveOf(-916, -9761), pointOf(-4339, 121076, 17), pointOf(8889, 70573, 16), impl.Fraction{}}, {curveOf(4, 1684), pointOf(5116, 464538, 19), pointOf(-3815, -12259, 18), impl.Fraction{}},
	} {
		got, ok := impl.SlopeOf(known.curve, known.p, known.q)
		if got != known.want || ok != (known.want != impl.Fraction{}) {
			t.Errorf("the slope of %v at %v, %v: got %v, %v, want %v", known.curve, known.p, known.q, got, ok, known.want)
		}
		checkSlope(t, known.curve, known.p, known.q)
	}
}

func TestPointsAtX(t *testing.T) {
	for _, pointed := range pointedCurves() {
		c := pointed.curve
		for _, p := range pointed.points[1:] {
			want := []impl.Point{p}
			if p.Y != 0 {
				want = []impl.Point{pointOf(p.X, min(p.Y, -p.Y), p.E), pointOf(p.X, max(p.Y, -p.Y), p.E)}
			}
			got, ok := impl.PointsAtX(c, frac(p.X, p.E*p.E))
			checkPoints(t, got, ok, want, true, c, "at", p)
		}
		for _, e := range []int{1, 2, 3, 7, mostE} {
			for _, x := range []int{-mostX, 1 - mostX, -1009, -37, -3, -1, 0, 1, 2, 3, 9, 41, 1681, mostX - 1, mostX} {
				if a := frac(x, e*e); impl.IsFraction(a) {
					var want []impl.Point
					for _, p := range pointed.points {
						if p.X == x && p.E == e {
							want = append(want, p)
						}
					}
					got, ok := impl.PointsAtX(c, a)
					checkPoints(t, got, ok, want, true, c, "at", a)
				}
			}
		}
	}
}

func TestSpecialX(t *testing.T) {
	c := curveOf(-16, 16)
	for _, known := range []struct {
		curve impl.Curve
		x     impl.Fraction
		want  []impl.Point
	}{
		{c, frac(1, 1), []impl.Point{pointOf(1, -1, 1), pointOf(1, 1, 1)}}, {c, frac(0, 1), []impl.Point{pointOf(0, -4, 1), pointOf(0, 4, 1)}}, {c, frac(2, 1), nil}, {c, frac(-5, 1), nil}, {c, frac(3, 1), nil}, {curveOf(0, 1), frac(-1, 1), []impl.Point{pointOf(-1, 0, 1)}}, {curveOf(0, 1), frac(1, 1), nil}, {curveOf(0, -1), frac(0, 1), nil},
		{curveOf(-1, 0), frac(0, 1), []impl.Point{pointOf(0, 0, 1)}}, {curveOf(-1, 0), frac(1, 4), nil}, {curveOf(-25, 0), frac(1681, 144), []impl.Point{pointOf(1681, -62279, 12), pointOf(1681, 62279, 12)}},
		{curveOf(1, -9983), frac(8721, 400), []impl.Point{pointOf(8721, -160519, 20), pointOf(8721, 160519, 20)}}, {curveOf(-977, 7764), frac(-10000, 289), []impl.Point{pointOf(-10000, -58346, 17), pointOf(-10000, 58346, 17)}}, {curveOf(1, -10000), frac(10000, 1), []impl.Point{pointOf(10000, -1000000, 1), pointOf(10000, 1000000, 1)}},
		{c, frac(10000, 1), nil}, {c, frac(-10000, 1), nil}, {c, frac(9999, 400), nil}, {c, frac(-9999, 400), nil}, {curveOf(-1000, -10000), frac(-9999, 400), nil},
	} {
		got, ok := impl.PointsAtX(known.curve, known.x)
		checkPoints(t, got, ok, known.want, true, known.curve, "at", known.x)
	}
}

func TestXWithoutPlaces(t *testing.T) {
	list := []impl.Fraction{
		// Den is no square.
		frac(1, 2), frac(1, 3), frac(1, 5), frac(-1, 8), frac(7, 10), frac(1, 24), frac(1, 26), frac(1, 399), frac(1, 401), frac(1, 360), frac(2, 999999999), frac(1, 1000000000),
		// X or E is too large: there is a point of the first ones, but for that.
		frac(10001, 1), frac(-10001, 1), frac(10001, 100), frac(10001, 400), frac(-10031, 400), frac(-10071, 400), frac(4, 441), frac(-1700, 441), frac(9895, 441), frac(1, 441), frac(-1, 441), frac(1, 484), frac(1, 999950884), frac(1000000000, 1), frac(-1000000000, 1), frac(1000000000, 441), frac(10001, 441),
	}
	for _, c := range []impl.Curve{curveOf(-16, 16), curveOf(-1, 2500), curveOf(0, -7501), curveOf(4, 6816), curveOf(-13, -1388), curveOf(-260, 9718), curveOf(-255, 9540), curveOf(4, 441), curveOf(4, 425), curveOf(3, -9724), curveOf(1000, 10000)} {
		for _, x := range append(list, invalidFractions()...) {
			got, ok := impl.PointsAtX(c, x)
			checkPoints(t, got, ok, nil, false, c, "at", x)
		}
		for _, x := range []impl.Fraction{frac(0, 4), frac(4, 4), frac(8, 4), frac(0, 0), frac(1, -4), frac(-1, -1), frac(40, 400), frac(0, math.MinInt)} {
			got, ok := impl.PointsAtX(c, x)
			checkPoints(t, got, ok, nil, false, c, "at", x)
		}
	}
}

func TestPointHeights(t *testing.T) {
	for _, pointed := range pointedCurves() {
		for _, p := range pointed.points {
			want := max(p.X, -p.X, p.E*p.E, 1)
			got, ok := impl.PointHeight(pointed.curve, p)
			checkNumber(t, got, ok, want, true, pointed.curve, "the height of", p)
		}
	}
	for _, known := range []struct {
		curve impl.Curve
		point impl.Point
		want  int
	}{
		{curveOf(-16, 16), infinity, 1}, {curveOf(-16, 16), pointOf(-4, -4, 1), 4}, {curveOf(-16, 16), pointOf(4, 4, 1), 4}, {curveOf(-16, 16), pointOf(0, 4, 1), 1}, {curveOf(-16, 16), pointOf(1, 1, 1), 1}, {curveOf(0, 17), pointOf(-2, 3, 1), 2}, {curveOf(0, 17), pointOf(5234, 378661, 1), 5234},
		{curveOf(-977, 7764), pointOf(-10000, 58346, 17), 10000}, {curveOf(1, -10000), pointOf(10000, -1000000, 1), 10000}, {curveOf(4, 61), pointOf(-1439, 1809, 20), 1439}, {curveOf(-25, 0), pointOf(1681, 62279, 12), 1681},
		// E^2 is the greater one.
		{curveOf(-3, 5303), pointOf(-341, 357837, 17), 341}, {curveOf(-3, 146), pointOf(158, 82528, 19), 361},
	} {
		got, ok := impl.PointHeight(known.curve, known.point)
		checkNumber(t, got, ok, known.want, true, known.curve, "the height of", known.point)
	}
}
