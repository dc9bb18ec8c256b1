package tests

import (
	"fmt"
	"math"
	"math/big"
	"slices"
	"testing"

	"loop.example/g01004/impl"
)

func TestCubicExample(t *testing.T) {
	f := cubicOf(2, -3, -3, 2)
	checkRoots(t, f, frac(-1, 1), frac(1, 2), frac(2, 1))
	checkFactor(t, f, frac(1, 2), 1, -1, -2)
	text, ok := impl.CubicText(f)
	if text != "2 -3 -3 2" || !ok {
		t.Error("text", text, ok)
	}
	if impl.MaxCubic != mostCoefficient {
		t.Error("MaxCubic is", impl.MaxCubic)
	}
}

func TestIsCubic(t *testing.T) {
	for _, f := range sampleCubics() {
		if !impl.IsCubic(f) {
			t.Error("valid", f)
		}
	}
	for _, f := range invalidCubics() {
		if impl.IsCubic(f) {
			t.Error("invalid", f)
		}
	}
}

func TestCubicAt(t *testing.T) {
	places := []int{-mostPlace, 1 - mostPlace, -1001, -10, -2, -1, 0, 1, 2, 3, 10, 997, mostPlace - 1, mostPlace}
	for _, f := range sampleCubics() {
		for _, x := range places {
			got, ok := impl.CubicAt(f, x)
			want := polynomialOf(f).at(ratio(x, 1))
			checkNumber(t, got, ok, int(want.Num().Int64()), true, f, x)
		}
	}
	got, ok := impl.CubicAt(cubicOf(1000, 1000, 1000, 1000), mostPlace)
	checkNumber(t, got, ok, 1000100010001000, true, "the greatest value")
	got, ok = impl.CubicAt(cubicOf(1000, -1000, 1000, -1000), -mostPlace)
	checkNumber(t, got, ok, -1000100010001000, true, "the least value")
}

func TestPlacesOutOfRangeFail(t *testing.T) {
	for _, f := range sampleCubics() {
		for _, x := range []int{mostPlace + 1, -mostPlace - 1, mostPlace + 2, 1 << 21, 1 << 22, 1 << 32, 1 << 62, math.MaxInt, math.MinInt, math.MinInt + 1} {
			got, ok := impl.CubicAt(f, x)
			checkNumber(t, got, ok, 0, false, f, x)
		}
	}
}

func TestCubicAtFraction(t *testing.T) {
	places := []impl.Fraction{
		frac(-mostPlace, 1), frac(-mostPlace, 999), frac(-9999, mostPlaceDen), frac(mostPlace, 1), frac(mostPlace, 999), frac(9999, mostPlaceDen),
		frac(1, mostPlaceDen), frac(-1, mostPlaceDen), frac(999, mostPlaceDen), frac(mostPlaceDen, 999), frac(-1, 3), frac(5, 7),
	}
	for _, f := range sampleCubics() {
		for _, x := range append(places, sampleRoots()...) {
			got, ok := impl.CubicAtFraction(f, x)
			checkNumber(t, got, ok, polynomialOf(f).at(ratOf(x)).Sign(), true, f, x)
		}
	}
	// Next to the root 1/3, on both sides of it, and at it.
	for _, c := range [][3]int{{333, 1000, -1}, {332, 997, -1}, {1, 3, 0}, {333, 998, 1}, {3, 8, 1}} {
		got, ok := impl.CubicAtFraction(cubicOf(27, -27, 9, -1), frac(c[0], c[1]))
		checkNumber(t, got, ok, c[2], true, c)
	}
}

func TestFractionsOutOfRangeFail(t *testing.T) {
	out := []impl.Fraction{
		frac(mostPlace+1, 1), frac(-mostPlace-1, 1), frac(mostPlace+1, mostPlaceDen), frac(-mostPlace-1, mostPlaceDen),
		frac(1, mostPlaceDen+1), frac(-1, mostPlaceDen+1), frac(0, mostPlaceDen+1), frac(mostPlace, mostPlaceDen+1), frac(mostPlaceDen, mostPlaceDen+1),
		frac(1<<22, 1), frac(-1<<22, 1), frac(1, 1<<22), frac(1000000000, 1), frac(-1000000000, 1), frac(1, 1000000000), frac(999999999, 1000000000),
	}
	for _, f := range sampleCubics() {
		for _, x := range append(out, invalidFractions()...) {
			got, ok := impl.CubicAtFraction(f, x)
			checkNumber(t, got, ok, 0, false, f, x)
		}
	}
}

func TestDiscriminants(t *testing.T) {
	for _, f := range sampleCubics() {
		want := new(big.Int)
		add := func(factor int, powers ...int) {
			term := big.NewInt(int64(factor))
			for i, n := range []int{f.A, f.B, f.C, f.D} {
				for range powers[i] {
					term.Mul(term, big.NewInt(int64(n)))
				}
			}
			want.Add(want, term)
		}
		add(1, 0, 2, 2, 0)
		add(-4, 1, 0, 3, 0)
		add(-4, 0, 3, 0, 1)
		add(-27, 2, 0, 0, 2)
		add(18, 1, 1, 1, 1)
		got, ok := impl.CubicDiscriminant(f)
		checkNumber(t, got, ok, int(want.Int64()), true, f)
	}
	for _, known := range knownCubics() {
		want := known.factor * known.factor
		for i, r := range known.three {
			s := known.three[(i+1)%3]
			want *= r.Num*s.Den - s.Num*r.Den
		}
		got, ok := impl.CubicDiscriminant(known.cubic)
		checkNumber(t, got, ok, want*want, true, known.cubic)
	}
}

func TestRealRootCounts(t *testing.T) {
	for _, f := range sampleCubics() {
		got, ok := impl.RealRootCount(f)
		checkNumber(t, got, ok, rootsBetween(f, ratio(-1002, 1), ratio(1002, 1)), true, f)
	}
	for _, known := range knownCubics() {
		got, ok := impl.RealRootCount(known.cubic)
		checkNumber(t, got, ok, len(known.roots), true, known.cubic)
	}
	counts := []struct {
		cubic impl.Cubic
		count int
	}{
		{cubicOf(1, 0, 0, 0), 1}, {cubicOf(-1, 0, 0, 1), 1}, {cubicOf(1, 0, 1, 0), 1}, {cubicOf(1, 0, -1, 0), 3}, {cubicOf(1, -1, 0, 0), 2},
		{cubicOf(1, 0, -3, 2), 2}, {cubicOf(1, 0, -3, -2), 2}, {cubicOf(1, 0, -3, 1), 3}, {cubicOf(1, 0, -3, 3), 1}, {cubicOf(27, -27, 9, -1), 1},
		{cubicOf(-8, 12, -6, 1), 1}, {cubicOf(1, 30, 300, 1000), 1}, {cubicOf(4, 0, -3, 1), 2}, {cubicOf(1, -1000, 0, 0), 2}, {cubicOf(1000, 0, 0, -1000), 1},
		// B^2 is 3 A C, but the discriminant is not 0.
		{cubicOf(1, 3, 3, 0), 1}, {cubicOf(1, 0, 0, 2), 1}, {cubicOf(-1, 3, -3, 2), 1},
	}
	for _, c := range counts {
		got, ok := impl.RealRootCount(c.cubic)
		checkNumber(t, got, ok, c.count, true, c.cubic)
	}
}

func TestRootCells(t *testing.T) {
	for _, f := range sampleCubics() {
		value := func(k int) int { return f.A*k*k*k + f.B*k*k + f.C*k + f.D }
		want := []int{}
		for k := -1200; k <= 1200; k++ {
			if value(k) == 0 || value(k) < 0 && value(k+1) > 0 || value(k) > 0 && value(k+1) < 0 {
				want = append(want, k)
			}
		}
		checkCells(t, f, want...)
	}
}

func TestCellsHaveNoMoreRootsThanThereAre(t *testing.T) {
	for _, f := range sampleCubics() {
		cells, ok := impl.RootCells(f)
		count, okToo := impl.RealRootCount(f)
		if !ok || !okToo || len(cells) > count || len(cells) == 0 {
			t.Errorf("%v has the cells %v and %d roots", f, cells, count)
		}
		for i, k := range cells {
			if i > 0 && k <= cells[i-1] || k < -farthestRoot || k > farthestRoot {
				t.Errorf("the cells of %v: got %v", f, cells)
			}
			if polynomialOf(f).at(ratio(k, 1)).Sign() == 0 {
				continue
			}
			if polynomialOf(f).at(ratio(k+1, 1)).Sign() == 0 || rootsBetween(f, ratio(k, 1), ratio(k+1, 1)) == 0 {
				t.Errorf("%v has no root in its cell %d", f, k)
			}
		}
	}
}

func TestSpecialCells(t *testing.T) {
	checkCells(t, cubicOf(2, -3, -3, 2), -1, 0, 2)
	// Roots at the lower ends of cells, next to each other, and counted twice or three times.
	checkCells(t, cubicOf(1, 0, -1, 0), -1, 0, 1)
	checkCells(t, cubicOf(1, -6, 11, -6), 1, 2, 3)
	checkCells(t, cubicOf(-1, 0, 3, 2), -1, 2)
	checkCells(t, cubicOf(1, 0, -3, 2), -2, 1)
	checkCells(t, cubicOf(7, 0, 0, 0), 0)
	checkCells(t, cubicOf(1, 30, 300, 1000), -10)
	// Two roots in one cell, different or the same, cannot be told from the signs at its ends; three can.
	checkCells(t, cubicOf(4, -16, 13, -3), 3)
	checkCells(t, cubicOf(9, -36, 29, -6), 3)
	checkCells(t, cubicOf(27, -27, 9, -1), 0)
	checkCells(t, cubicOf(100, -150, 74, -12), 0)
	// Roots as far from 0 as they can be: at an integer, and beyond it.
	checkCells(t, cubicOf(1, -1000, 0, 0), 0, 1000)
	checkCells(t, cubicOf(-1, -1000, 0, 0), -1000, 0)
	checkCells(t, cubicOf(1, -1000, -1000, -1000), 1000)
	checkCells(t, cubicOf(1, 1000, -1000, 1000), -1001)
	checkCells(t, cubicOf(-1, -1000, 1000, 1000), -1001, -1, 1)
	checkCells(t, cubicOf(1000, 1, 1, 1), -1)
}

func TestRationalRoots(t *testing.T) {
	for _, known := range knownCubics() {
		checkRoots(t, known.cubic, known.roots...)
	}
	for _, f := range smallCubics() {
		var list []impl.Fraction
		for num := -10; num <= 10; num++ {
			for den := 1; den <= 10; den++ {
				r, _ := fractionOfRat(ratio(num, den))
				if polynomialOf(f).at(ratOf(r)).Sign() == 0 {
					list = append(list, r)
				}
			}
		}
		checkRoots(t, f, increasing(list...)...)
	}
}

func TestSpecialRoots(t *testing.T) {
	checkRoots(t, cubicOf(1, 0, 0, 0), frac(0, 1))
	checkRoots(t, cubicOf(-1000, 0, 0, 0), frac(0, 1))
	checkRoots(t, cubicOf(6, 5, 0, 0), frac(-5, 6), frac(0, 1))
	checkRoots(t, cubicOf(6, 1, -1, 0), frac(-1, 2), frac(0, 1), frac(1, 3))
	checkRoots(t, cubicOf(1, 0, 1, 0), frac(0, 1))
	checkRoots(t, cubicOf(1, 0, -2, 0), frac(0, 1))
	checkRoots(t, cubicOf(1, 0, -3, 2), frac(-2, 1), frac(1, 1))
	checkRoots(t, cubicOf(27, -27, 9, -1), frac(1, 3))
	checkRoots(t, cubicOf(4, -16, 13, -3), frac(1, 2), frac(3, 1))
	checkRoots(t, cubicOf(9, -36, 29, -6), frac(1, 3), frac(2, 3), frac(3, 1))
	checkRoots(t, cubicOf(2, -1, 2, -1), frac(1, 2))
	checkRoots(t, cubicOf(1, -1, -2, 2), frac(1, 1))
	checkRoots(t, cubicOf(1, -1000, 0, 0), frac(0, 1), frac(1000, 1))
	checkRoots(t, cubicOf(1, -999, -1000, 0), frac(-1, 1), frac(0, 1), frac(1000, 1))
	checkRoots(t, cubicOf(1, 1000, 1, 1000), frac(-1000, 1))
	checkRoots(t, cubicOf(1000, 1, 0, 0), frac(-1, 1000), frac(0, 1))
	checkRoots(t, cubicOf(1000, -999, 1000, -999), frac(999, 1000))
	checkRoots(t, cubicOf(999, -1000, -999, 1000), frac(-1, 1), frac(1, 1), frac(1000, 999))
	checkRoots(t, cubicOf(1000, 0, 0, 1000), frac(-1, 1))
	checkRoots(t, cubicOf(8, 0, 0, -27), frac(3, 2))
	for _, f := range []impl.Cubic{
		cubicOf(1, 0, 0, 2), cubicOf(1, 1, 1, 2), cubicOf(1, 0, -3, 1), cubicOf(2, 0, 0, -1), cubicOf(-3, 1, 1, 2),
		cubicOf(1000, 0, 0, 2), cubicOf(1, 0, 0, 999), cubicOf(1, -1000, -1000, -1000), cubicOf(997, 1, 1, 991),
	} {
		checkRoots(t, f)
	}
}

func TestRootsAreRoots(t *testing.T) {
	for _, f := range sampleCubics() {
		roots, ok := impl.RationalRoots(f)
		count, _ := impl.RealRootCount(f)
		cells, _ := impl.RootCells(f)
		if !ok || len(roots) > count {
			t.Errorf("the roots of %v: got %v, %v", f, roots, ok)
		}
		for i, r := range roots {
			if i > 0 && ratOf(roots[i-1]).Cmp(ratOf(r)) >= 0 || !impl.IsFraction(r) || polynomialOf(f).at(ratOf(r)).Sign() != 0 {
				t.Errorf("the roots of %v: got %v, %v", f, roots, ok)
			}
			if r.Den == 1 && !slices.Contains(cells, r.Num) {
				t.Errorf("the cells of %v: got %v without the root %v", f, cells, r)
			}
		}
		if is, ok := impl.IsIrreducibleCubic(f); is != (len(roots) == 0) || !ok {
			t.Errorf("%v is irreducible: got %v, %v", f, is, ok)
		}
	}
}

// checkFactor compares a factor with the one that it should be, and checks that it multiplies out.
func checkFactor(t *testing.T, f impl.Cubic, r impl.Fraction, a int, b int, c int) {
	t.Helper()
	gotA, gotB, gotC, ok := impl.FactorOut(f, r)
	if gotA != a || gotB != b || gotC != c || !ok {
		t.Errorf("%v without %v: got %d %d %d, %v, want %d %d %d", f, r, gotA, gotB, gotC, ok, a, b, c)
	}
	checkMultipliesOut(t, f, r)
}

func checkMultipliesOut(t *testing.T, f impl.Cubic, r impl.Fraction) {
	t.Helper()
	a, b, c, ok := impl.FactorOut(f, r)
	if product := cubicOf(r.Den*a, r.Den*b-r.Num*a, r.Den*c-r.Num*b, -r.Num*c); product != f || !ok {
		t.Errorf("%v without %v: got %d %d %d, %v", f, r, a, b, c, ok)
	}
}

// checkNoFactor checks that a fraction is no root of a cubic for FactorOut.
func checkNoFactor(t *testing.T, f impl.Cubic, r impl.Fraction) {
	t.Helper()
	if a, b, c, ok := impl.FactorOut(f, r); a != 0 || b != 0 || c != 0 || ok {
		t.Errorf("%v without %v: got %d %d %d, %v", f, r, a, b, c, ok)
	}
}

func TestFactorsMultiplyOutToCubics(t *testing.T) {
	for _, known := range knownCubics() {
		for _, r := range sampleRoots() {
			if slices.Contains(known.roots, r) {
				checkMultipliesOut(t, known.cubic, r)
			} else {
				checkNoFactor(t, known.cubic, r)
			}
		}
	}
	for _, f := range sampleCubics() {
		roots, _ := impl.RationalRoots(f)
		for _, r := range roots {
			checkMultipliesOut(t, f, r)
		}
	}
	checkFactor(t, cubicOf(1, 0, 0, 0), frac(0, 1), 1, 0, 0)
	checkFactor(t, cubicOf(6, 5, -7, 0), frac(0, 1), 6, 5, -7)
	checkFactor(t, cubicOf(1, 0, -3, 2), frac(1, 1), 1, 1, -2)
	checkFactor(t, cubicOf(1, 0, -3, 2), frac(-2, 1), 1, -2, 1)
	checkFactor(t, cubicOf(-8, 0, 0, 27), frac(3, 2), -4, -6, -9)
	checkFactor(t, cubicOf(1, -1000, 0, 0), frac(1000, 1), 1, 0, 0)
	checkFactor(t, cubicOf(1000, -999, 1000, -999), frac(999, 1000), 1, 0, 1)
	// A factor may have coefficients that a cubic may not have.
	checkFactor(t, cubicOf(1000, 1000, -1000, -1000), frac(1, 1), 1000, 2000, 1000)
}

func TestFractionsThatAreNoRootHaveNoFactor(t *testing.T) {
	f := cubicOf(2, -3, -3, 2)
	for _, r := range append(sampleFractions(), invalidFractions()...) {
		if r != frac(2, 1) && r != frac(1, 2) && r != frac(-1, 1) {
			checkNoFactor(t, f, r)
		}
		checkNoFactor(t, cubicOf(1, 0, 0, 2), r)
		if r != frac(0, 1) {
			checkNoFactor(t, cubicOf(-5, 0, 0, 0), r)
		}
	}
	// The values of these are 0 only modulo 2 to the power 64, or of fractions that are not in lowest terms.
	for _, c := range []knownCubic{
		{cubic: cubicOf(1, 0, 0, 0), roots: []impl.Fraction{frac(1<<22, 1), frac(-1<<22, 1), frac(1<<29, 1), frac(1<<22, 3), frac(1<<22, 1000000000-1)}},
		{cubic: cubicOf(1, 1, 1, 0), roots: []impl.Fraction{frac(1<<29, 1), frac(1<<22, 1<<22+1), frac(1, 1<<22), frac(0, 1<<22)}},
		{cubic: f, roots: []impl.Fraction{frac(2, 4), frac(-1, -2), frac(4, 2), frac(-2, 2), frac(1, -1), frac(500, 1000)}},
		{cubic: cubicOf(1, 0, 0, 0), roots: []impl.Fraction{frac(0, 2), frac(0, 0), frac(0, -1), {}}},
	} {
		for _, r := range c.roots {
			checkNoFactor(t, c.cubic, r)
		}
	}
}

func TestContents(t *testing.T) {
	for _, f := range sampleCubics() {
		want := new(big.Int)
		for _, n := range []int{f.A, f.B, f.C, f.D} {
			want.GCD(nil, nil, want, new(big.Int).Abs(big.NewInt(int64(n))))
		}
		n, g, ok := impl.ContentOf(f)
		checkNumber(t, n, ok, int(want.Int64()), true, "the content of", f)
		checkCubic(t, cubicOf(g.A*n, g.B*n, g.C*n, g.D*n), ok, f, true, "the content of", f, "times", g)
		one, same, ok := impl.ContentOf(g)
		checkNumber(t, one, ok, 1, true, "the content of", g)
		checkCubic(t, same, ok, g, true, "again", g)
	}
	contents := []struct {
		cubic impl.Cubic
		n     int
		rest  impl.Cubic
	}{
		{cubicOf(2, -4, 6, 8), 2, cubicOf(1, -2, 3, 4)}, {cubicOf(-2, 4, -6, -8), 2, cubicOf(-1, 2, -3, -4)}, {cubicOf(7, 0, 0, 0), 7, cubicOf(1, 0, 0, 0)},
		{cubicOf(-1000, 0, 0, 0), 1000, cubicOf(-1, 0, 0, 0)}, {cubicOf(1000, -1000, 1000, -1000), 1000, cubicOf(1, -1, 1, -1)},
		{cubicOf(6, 10, 15, 0), 1, cubicOf(6, 10, 15, 0)}, {cubicOf(6, 0, 0, -9), 3, cubicOf(2, 0, 0, -3)}, {cubicOf(-997, 0, 997, 0), 997, cubicOf(-1, 0, 1, 0)},
		{cubicOf(12, 18, 30, 1), 1, cubicOf(12, 18, 30, 1)}, {cubicOf(1, 2, 2, 2), 1, cubicOf(1, 2, 2, 2)}, {cubicOf(-12, 6, 4, 10), 2, cubicOf(-6, 3, 2, 5)},
	}
	for _, c := range contents {
		n, g, ok := impl.ContentOf(c.cubic)
		checkNumber(t, n, ok, c.n, true, c.cubic)
		checkCubic(t, g, ok, c.rest, true, c.cubic)
	}
}

func TestShiftedCubics(t *testing.T) {
	for _, f := range sampleCubics() {
		for by := -mostShift; by <= mostShift; by++ {
			want := cubicOf(f.A, f.B+3*f.A*by, f.C+2*f.B*by+3*f.A*by*by, f.D+f.C*by+f.B*by*by+f.A*by*by*by)
			fine := isLegalCubic(want)
			if !fine {
				want = impl.Cubic{}
			}
			got, ok := impl.ShiftCubic(f, by)
			checkCubic(t, got, ok, want, fine, f, "shifted by", by)
			if !ok {
				continue
			}
			for x := -3; x <= 3; x++ {
				here, _ := impl.CubicAt(got, x)
				there, _ := impl.CubicAt(f, x+by)
				checkNumber(t, here, true, there, true, f, "shifted by", by, "at", x)
			}
			back, ok := impl.ShiftCubic(got, -by)
			checkCubic(t, back, ok, f, true, f, "shifted by", by, "and back")
		}
	}
}

func TestSpecialShifts(t *testing.T) {
	shifts := []struct {
		cubic impl.Cubic
		by    int
		want  impl.Cubic
	}{
		{cubicOf(2, -3, -3, 2), 1, cubicOf(2, 3, -3, -2)},
		{cubicOf(1000, -1000, 1000, -1000), 0, cubicOf(1000, -1000, 1000, -1000)},
		{cubicOf(1, 0, 0, 0), 10, cubicOf(1, 30, 300, 1000)},
		{cubicOf(1, 0, 0, 0), -10, cubicOf(1, -30, 300, -1000)},
		{cubicOf(1, 0, -2, 20), 10, cubicOf(1, 30, 298, 1000)},
		{cubicOf(200, 400, -400, 0), 1, cubicOf(200, 1000, 1000, 200)},
		// One coefficient alone passes the greatest one: the second, the third or the last.
		{cubicOf(400, 0, -1000, 0), 1, impl.Cubic{}},
		{cubicOf(200, 401, -402, 0), 1, impl.Cubic{}},
		{cubicOf(200, 300, 0, -1000), 1, impl.Cubic{}},
		{cubicOf(200, 400, -399, 0), 1, impl.Cubic{}},
		{cubicOf(1, 0, 0, 1), 10, impl.Cubic{}},
		{cubicOf(1, 0, 0, -1), -10, impl.Cubic{}},
		{cubicOf(1, 0, 0, 0), 11, impl.Cubic{}},
		{cubicOf(1, 0, 0, 0), -11, impl.Cubic{}},
		{cubicOf(1, 30, 300, 1000), -11, impl.Cubic{}},
		{cubicOf(1, -30, 300, -1000), 11, impl.Cubic{}},
		{cubicOf(1000, 1000, 1000, 1000), 10, impl.Cubic{}},
		{cubicOf(-1000, 1000, -1000, 1000), -10, impl.Cubic{}},
	}
	for _, c := range shifts {
		got, ok := impl.ShiftCubic(c.cubic, c.by)
		checkCubic(t, got, ok, c.want, c.want != impl.Cubic{}, c.cubic, "shifted by", c.by)
	}
	for _, by := range []int{mostShift + 1, -mostShift - 1, 100, -100, 1 << 32, 1 << 62, math.MaxInt, math.MinInt, math.MinInt + 1} {
		for _, f := range sampleCubics() {
			got, ok := impl.ShiftCubic(f, by)
			checkCubic(t, got, ok, impl.Cubic{}, false, f, "shifted by", by)
		}
	}
}

func TestReversedCubics(t *testing.T) {
	for _, f := range sampleCubics() {
		got, ok := impl.ReverseCubic(f)
		if f.D == 0 {
			checkCubic(t, got, ok, impl.Cubic{}, false, f)
			continue
		}
		checkCubic(t, got, ok, cubicOf(f.D, f.C, f.B, f.A), true, f)
		back, ok := impl.ReverseCubic(got)
		checkCubic(t, back, ok, f, true, f, "twice")
		roots, _ := impl.RationalRoots(f)
		for i, r := range roots {
			roots[i], _ = impl.QuotientOf(frac(1, 1), r)
		}
		checkRoots(t, got, increasing(roots...)...)
	}
	got, ok := impl.ReverseCubic(cubicOf(1000, 2, 0, -1000))
	checkCubic(t, got, ok, cubicOf(-1000, 0, 2, 1000), true, "reversed")
}

func TestCubicTexts(t *testing.T) {
	for _, f := range sampleCubics() {
		want := fmt.Sprintf("%d %d %d %d", f.A, f.B, f.C, f.D)
		if got, ok := impl.CubicText(f); got != want || !ok {
			t.Errorf("the text of %v: got %q, %v", f, got, ok)
		}
	}
	for text, f := range map[string]impl.Cubic{
		"1 0 0 0":               cubicOf(1, 0, 0, 0),
		"-1 0 -10 100":          cubicOf(-1, 0, -10, 100),
		"1000 -1000 1000 -1000": cubicOf(1000, -1000, 1000, -1000),
		"-1000 999 -999 1000":   cubicOf(-1000, 999, -999, 1000),
	} {
		if got, ok := impl.CubicText(f); got != text || !ok {
			t.Errorf("the text of %v: got %q, %v", f, got, ok)
		}
	}
}
