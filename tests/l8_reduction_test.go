package tests

import (
	"math/big"
	"slices"
	"testing"

	"loop.example/g01004/impl"
)

func TestReductionExample(t *testing.T) {
	c := curveOf(-16, 16)
	text, ok := impl.ReductionText(c)
	checkText(t, text, ok, "37 I1 nonsplit;", true, c)
	checkReduction(t, c, 37, knownReduction{minimal: c, valuation: 1, kind: kindNonsplit, symbol: "I1", exponent: 1, node: 20, triple: 23, count: 38})
	checkReduction(t, c, 5, knownReduction{minimal: c, kind: kindGood, symbol: "I0", count: 8})
}

func TestReductionsAtBadPrimes(t *testing.T) {
	seen := map[string]int{}
	for _, c := range reducedCurves() {
		for _, p := range primesDividing(c) {
			if p <= greatestPrime {
				want := reductionOf(c, p)
				seen[want.kind]++
				checkReduction(t, c, p, want)
			}
		}
	}
	if seen[kindGood] != 2 || seen[kindSplit] < 300 || seen[kindNonsplit] < 300 || seen[kindAdditive] < 300 {
		t.Error("too few kinds", seen)
	}
}

func TestReductionsAtAllPrimes(t *testing.T) {
	for _, c := range append(fieldCurves(), curveOf(625, 0), curveOf(-625, 0), curveOf(0, 9967), curveOf(-3, 2+greatestPrime), curveOf(-432, 8208)) {
		for _, p := range fromFive() {
			checkReduction(t, c, p, reductionOf(c, p))
		}
	}
}

func TestCongruentCurvesHaveTheSameNode(t *testing.T) {
	for _, p := range []int{5, 7, 11, 13, 31} {
		for k := 1; k < p; k++ {
			kind := kindSplit
			if big.Jacobi(big.NewInt(int64(3*k)), big.NewInt(int64(p))) < 0 {
				kind = kindNonsplit
			}
			// Modulo p, each of these curves has the right side (x - k) (x - k) (x + 2 k).
			for a := -mostCurveA + residue(mostCurveA-3*k*k, p); a <= mostCurveA; a += 7 * p {
				b := -mostCurveB + residue(mostCurveB+2*k*k*k+p*a, p)
				for ; b <= mostCurveB; b += 101 * p {
					c := curveOf(a, b)
					if !isLegalCurve(c) {
						continue
					}
					checkNode(t, c, p, k, 3*k%p, true)
					text, ok := impl.ReductionKind(c, p)
					checkText(t, text, ok, kind, true, c, p)
				}
			}
		}
	}
}

func TestNodesModuloAllPrimes(t *testing.T) {
	for _, p := range fromFive() {
		seen := map[string]int{}
		for _, c := range nodeCurves(p) {
			want := reductionOf(c, p)
			seen[want.kind]++
			checkReduction(t, c, p, want)
		}
		if seen[kindSplit] < 2 || seen[kindNonsplit] < 2 || seen[kindGood] > 0 || seen[kindAdditive] > 0 {
			t.Error("too few nodes", p, seen)
		}
	}
}

func TestCuspsModuloAllPrimes(t *testing.T) {
	seen := map[string]int{}
	for _, p := range fromFive() {
		list := cuspCurves(p)
		if len(list) < 2 {
			t.Error("too few cusps", p)
		}
		for _, c := range list {
			want := reductionOf(c, p)
			seen[want.symbol]++
			checkReduction(t, c, p, want)
			checkNode(t, c, p, 0, 0, false)
		}
	}
	for _, symbol := range []string{"II", "III", "IV", "I0*", "I1*", "IV*", "III*", "II*"} {
		if seen[symbol] < 5 {
			t.Error("too few curves with", symbol, seen)
		}
	}
}

func TestStarredSymbols(t *testing.T) {
	seen := map[string]int{}
	for _, p := range []int{5, 7, 11, 13, 17, 19, 23, 29, 31} {
		for i, c := range starredCurves(p) {
			want := reductionOf(c, p)
			// Most of those modulo 5 are alike.
			if p > 5 || i%11 == 0 || want.valuation > 7 {
				seen[want.symbol]++
				checkReduction(t, c, p, want)
			}
		}
	}
	for _, symbol := range []string{"I0*", "I1*", "I2*", "I3*", "I4*", "IV*", "III*", "II*"} {
		if seen[symbol] < 4 {
			t.Error("too few curves with", symbol, seen)
		}
	}
}

func TestSymbolsWithTheirValuations(t *testing.T) {
	for _, known := range []struct {
		a, b, p   int
		symbol    string
		valuation int
	}{
		{-1, 0, 5, "I0", 0}, {0, 1, greatestPrime, "I0", 0}, {625, 0, 5, "I0", 0}, {-625, 0, 5, "I0", 0},
		{-16, 16, 37, "I1", 1}, {-7, 6, 5, "I2", 2}, {-3, 2 + 125, 5, "I3", 3}, {-3, 2 + 625, 5, "I4", 4}, {-3, 2 - 3125, 5, "I5", 5}, {63, -5759, 5, "I9", 9}, {402, 9172, 5, "I9", 9},
		{-3, 2 + 343, 7, "I3", 3}, {-866, 7359, 7, "I8", 8}, {-856, 3429, 11, "I6", 6}, {-345, 5157, 29, "I5", 5}, {-3, 2 + 7*997, greatestPrime, "I1", 1},
		{0, 5, 5, "II", 2}, {5, 5, 5, "II", 2}, {625, 5, 5, "II", 2}, {-25, 9995, 5, "II", 2}, {0, 997, greatestPrime, "II", 2}, {997, -9970, greatestPrime, "II", 2},
		{5, 0, 5, "III", 3}, {-5, 25, 5, "III", 3}, {5, 3125, 5, "III", 3}, {997, 0, greatestPrime, "III", 3}, {-997, 0, greatestPrime, "III", 3},
		{0, 25, 5, "IV", 4}, {25, 25, 5, "IV", 4}, {625, -50, 5, "IV", 4}, {0, 9409, 97, "IV", 4}, {49, 49, 7, "IV", 4},
		{25, 0, 5, "I0*", 6}, {0, 125, 5, "I0*", 6}, {25, 125, 5, "I0*", 6}, {25, 625, 5, "I0*", 6}, {125, 125, 5, "I0*", 6}, {961, 0, 31, "I0*", 6}, {0, 6859, 19, "I0*", 6}, {343, 343, 7, "I0*", 6},
		{50, 250, 5, "I1*", 7}, {169, -6591, 13, "I1*", 7}, {-925, -8250, 5, "I4*", 10}, {-825, 2250, 5, "I4*", 10}, {735, 7889, 7, "I3*", 9}, {-121, -7986, 11, "I2*", 8},
		{0, 625, 5, "IV*", 8}, {125, 625, 5, "IV*", 8}, {625, 1250, 5, "IV*", 8}, {0, 2401, 7, "IV*", 8}, {-343, -2401, 7, "IV*", 8},
		{125, 0, 5, "III*", 9}, {-250, 3125, 5, "III*", 9}, {343, 0, 7, "III*", 9}, {-686, 0, 7, "III*", 9},
		{0, 3125, 5, "II*", 10}, {0, -9375, 5, "II*", 10}, {625, 3125, 5, "II*", 10}, {-625, 6250, 5, "II*", 10},
	} {
		c := curveOf(known.a, known.b)
		text, ok := impl.ReductionSymbol(c, known.p)
		checkText(t, text, ok, known.symbol, true, known)
		n, ok := impl.DiscriminantValuation(c, known.p)
		checkNumber(t, n, ok, known.valuation, true, known)
		checkReduction(t, c, known.p, reductionOf(c, known.p))
	}
}

func TestMinimalModels(t *testing.T) {
	for _, known := range []struct {
		a, b, p int
		want    impl.Curve
		scaled  int
	}{
		{625, 0, 5, curveOf(1, 0), 1}, {-625, 0, 5, curveOf(-1, 0), 1}, {625, 0, 7, curveOf(625, 0), 0}, {1, 0, 5, curveOf(1, 0), 0},
		// One power less, a number beside it, or another coefficient that is not divided.
		{125, 0, 5, curveOf(125, 0), 0}, {-875, 0, 5, curveOf(-875, 0), 0}, {624, 0, 5, curveOf(624, 0), 0}, {-626, 0, 5, curveOf(-626, 0), 0}, {0, 3125, 5, curveOf(0, 3125), 0}, {0, -9375, 5, curveOf(0, -9375), 0},
		{625, 1, 5, curveOf(625, 1), 0}, {625, 3125, 5, curveOf(625, 3125), 0}, {-625, -9375, 5, curveOf(-625, -9375), 0}, {343, 0, 7, curveOf(343, 0), 0}, {0, 2401, 7, curveOf(0, 2401), 0}, {343, 2401, 7, curveOf(343, 2401), 0},
		// Scaled by 2 and by 3, but not by a prime from 5 on.
		{16, 64, 5, curveOf(16, 64), 0}, {0, 729, 7, curveOf(0, 729), 0}, {1000, 10000, 5, curveOf(1000, 10000), 0}, {-1000, -10000, greatestPrime, curveOf(-1000, -10000), 0},
	} {
		checkMinimal(t, curveOf(known.a, known.b), known.p, known.want, known.scaled, true)
	}
}

func TestMinimalModelsOnTheAxes(t *testing.T) {
	scaled := 0
	check := func(c impl.Curve) {
		for _, p := range []int{5, 7, 11, greatestPrime} {
			want := reductionOf(c, p)
			checkMinimal(t, c, p, want.minimal, want.scaled, true)
			checkMinimal(t, want.minimal, p, want.minimal, 0, true)
			scaled += want.scaled
		}
	}
	for a := -mostCurveA; a <= mostCurveA; a++ {
		if a != 0 {
			check(curveOf(a, 0))
		}
	}
	for b := -mostCurveB; b <= mostCurveB; b += 25 {
		if b != 0 {
			check(curveOf(0, b))
		}
	}
	if scaled != 2 {
		t.Error("only two curves are not minimal", scaled)
	}
}

func TestCurvesThatAreNotMinimalStandForOthers(t *testing.T) {
	for _, c := range []impl.Curve{curveOf(625, 0), curveOf(-625, 0)} {
		small := curveOf(c.A/625, 0)
		n, _ := impl.CountPoints(small, 5)
		checkReduction(t, c, 5, knownReduction{minimal: small, scaled: 1, kind: kindGood, symbol: "I0", count: n})
		// 5 is bad for the curve itself.
		primes, ok := impl.BadPrimes(c)
		checkList(t, primes, ok, []int{2, 5}, c)
		checkBadOf(t, c)
		for _, p := range fromFive()[1:] {
			n, _ := impl.CountPoints(c, p)
			checkReduction(t, c, p, knownReduction{minimal: c, kind: kindGood, symbol: "I0", count: n})
		}
	}
}

func TestKindsAgree(t *testing.T) {
	for _, c := range reducedCurves() {
		for i, p := range append(primesDividing(c), 5, 7, 11, 199, greatestPrime) {
			if p > greatestPrime {
				continue
			}
			kind, ok := impl.ReductionKind(c, p)
			symbol, okToo := impl.ReductionSymbol(c, p)
			valuation, okThree := impl.DiscriminantValuation(c, p)
			exponent, okFour := impl.ConductorExponent(c, p)
			count, okFive := impl.NonsingularCount(c, p)
			if !ok || !okToo || !okThree || !okFour || !okFive {
				t.Error("told not at all", c, p, i)
			}
			// Ogg's formula.
			if valuation != exponent+componentsOf(symbol)-1 {
				t.Error("valuation, exponent and symbol disagree", c, p, valuation, exponent, symbol)
			}
			wantExponent := map[string]int{kindGood: 0, kindSplit: 1, kindNonsplit: 1, kindAdditive: 2}
			if want, ok := wantExponent[kind]; !ok || exponent != want {
				t.Error("kind and exponent disagree", c, p, kind, exponent)
			}
			wantCount := map[string]int{kindSplit: p - 1, kindNonsplit: p + 1, kindAdditive: p}
			if want, ok := wantCount[kind]; ok && count != want {
				t.Error("kind and count disagree", c, p, kind, count)
			}
			if kind == kindGood && (valuation != 0 || (p+1-count)*(p+1-count) > 4*p) {
				t.Error("a good curve with another count", c, p, valuation, count)
			}
		}
	}
}

// leastNonsquare returns the least number that is no square modulo a prime.
func leastNonsquare(p int) int {
	d := 2
	for big.Jacobi(big.NewInt(int64(d)), big.NewInt(int64(p))) > 0 {
		d++
	}
	return d
}

func TestTwistsSwapTangents(t *testing.T) {
	other := map[string]string{kindSplit: kindNonsplit, kindNonsplit: kindSplit, kindAdditive: kindAdditive, kindGood: kindGood}
	compared := 0
	for _, c := range reducedCurves() {
		for _, p := range append(primesDividing(c), 5, 13, 101) {
			d := leastNonsquare(p)
			twist := curveOf(c.A*d*d, c.B*d*d*d)
			if p > greatestPrime || !isLegalCurve(twist) {
				continue
			}
			compared++
			kind, _ := impl.ReductionKind(c, p)
			symbol, _ := impl.ReductionSymbol(c, p)
			count, _ := impl.NonsingularCount(c, p)
			text, ok := impl.ReductionKind(twist, p)
			checkText(t, text, ok, other[kind], true, "the twist of", c, p)
			text, ok = impl.ReductionSymbol(twist, p)
			checkText(t, text, ok, symbol, true, "the twist of", c, p)
			n, ok := impl.NonsingularCount(twist, p)
			both := 2 * p
			if kind == kindGood {
				both += 2
			}
			checkNumber(t, n, ok, both-count, true, "the twist of", c, p)
		}
	}
	if compared < 1000 {
		t.Error("too few twists", compared)
	}
}

func TestTwistsByThePrimeAreStarred(t *testing.T) {
	special := map[string]string{"II": "IV*", "III": "III*", "IV": "II*", "I0*": "I0", "IV*": "II", "III*": "III", "II*": "IV"}
	compared := map[string]int{}
	for _, p := range []int{5, 7, 11, 13} {
		for a := -mostCurveA / (p * p); a <= mostCurveA/(p*p); a++ {
			for b := -mostCurveB / (p * p * p); b <= mostCurveB/(p*p*p); b++ {
				c, twist := curveOf(a, b), curveOf(a*p*p, b*p*p*p)
				if !isLegalCurve(c) || !isLegalCurve(twist) {
					continue
				}
				symbol, _ := impl.ReductionSymbol(c, p)
				want, isSpecial := special[symbol]
				if !isSpecial {
					want = symbol + "*"
				}
				compared[symbol]++
				got, ok := impl.ReductionSymbol(twist, p)
				checkText(t, got, ok, want, true, "the twist of", c, p)
			}
		}
	}
	for _, symbol := range []string{"I0", "I1", "I2", "I3", "I4", "II", "III", "IV", "I0*"} {
		if compared[symbol] == 0 {
			t.Error("no twist of", symbol)
		}
	}
}

func TestKnownConductors(t *testing.T) {
	for _, known := range []struct {
		a, b, part int
		text       string
	}{
		// The curves 11a3, 19a3 and 37a1, and those with the conductors 32, 36, 27, 49 and 121, twisted.
		{-432, 8208, 11, "11 I1 split;"}, {864, -432, 19, "19 I1 split;"}, {-16, 16, 37, "37 I1 nonsplit;"}, {-1, 0, 1, ""}, {0, 1, 1, ""}, {0, 16, 1, ""}, {-35, 98, 49, "7 III additive;"}, {-264, 1694, 121, "11 III additive;"},
		// Curves of congruent numbers.
		{-25, 0, 25, "5 I0* additive;"}, {-36, 0, 1, ""}, {-49, 0, 49, "7 I0* additive;"}, {-225, 0, 25, "5 I0* additive;"},
	} {
		c := curveOf(known.a, known.b)
		text, ok := impl.ReductionText(c)
		checkText(t, text, ok, known.text, true, c)
		n, ok := impl.ConductorPart(c)
		checkNumber(t, n, ok, known.part, true, "the conductor of", c)
		checkBadOf(t, c)
	}
}

func TestBadPrimesFromFive(t *testing.T) {
	fine, fails, semistable, several := 0, 0, 0, 0
	for _, c := range reducedCurves() {
		checkBadOf(t, c)
		list, ok := impl.BadFromFive(c)
		if is, _ := impl.IsSemistableFromFive(c); is && len(list) > 0 {
			semistable++
		}
		switch {
		case !ok:
			fails++
		case len(list) > 1:
			several++
		default:
			fine++
		}
	}
	if fine < 200 || fails < 200 || semistable < 200 || several < 200 {
		t.Error("too few curves", fine, fails, semistable, several)
	}
}

func TestCurvesWithSeveralBadPrimes(t *testing.T) {
	for _, known := range []struct {
		a, b                  int
		bad                   []int
		part                  int
		split, nonsplit, cusp []int
		text                  string
	}{
		{-980, 105, []int{5, 7, 11, 109, 233}, 25 * 49 * 11 * 109 * 233, []int{11}, []int{109, 233}, []int{5, 7}, "5 II additive;7 II additive;11 I2 split;109 I1 nonsplit;233 I1 nonsplit;"},
		{-980, 5145, []int{5, 7, 17, 61}, 25 * 49 * 17 * 61, []int{17, 61}, nil, []int{5, 7}, "5 II additive;7 I0* additive;17 I1 split;61 I1 split;"},
		{-595, 3570, []int{5, 7, 11, 17}, 25 * 49 * 11 * 289, []int{11}, nil, []int{5, 7, 17}, "5 II additive;7 II additive;11 I1 split;17 II additive;"},
		{-945, 7945, []int{5, 7, 13, 23}, 25 * 49 * 13 * 23, []int{13}, []int{23}, []int{5, 7}, "5 II additive;7 II additive;13 I3 split;23 I1 nonsplit;"},
		{-875, 4900, []int{5, 7, 23, 103}, 25 * 49 * 23 * 103, []int{23}, []int{103}, []int{5, 7}, "5 IV additive;7 III additive;23 I1 split;103 I1 nonsplit;"},
		{932, 7907, []int{5, 11, 13, 17, 19, 83, 257}, 5 * 11 * 13 * 17 * 19 * 83 * 257, []int{83}, []int{5, 11, 13, 17, 19, 257}, nil, "5 I1 nonsplit;11 I1 nonsplit;13 I1 nonsplit;17 I1 nonsplit;19 I1 nonsplit;83 I1 split;257 I1 nonsplit;"},
		{0, 5005, []int{5, 7, 11, 13}, 5005 * 5005, nil, nil, []int{5, 7, 11, 13}, "5 II additive;7 II additive;11 II additive;13 II additive;"},
		{-385, 0, []int{5, 7, 11}, 385 * 385, nil, nil, []int{5, 7, 11}, "5 III additive;7 III additive;11 III additive;"},
		{0, 9991, []int{97, 103}, 9991 * 9991, nil, nil, []int{97, 103}, "97 II additive;103 II additive;"},
		{875, 0, []int{5, 7}, 35 * 35, nil, nil, []int{5, 7}, "5 III* additive;7 III additive;"},
	} {
		c := curveOf(known.a, known.b)
		list, ok := impl.BadFromFive(c)
		checkPrimes(t, list, ok, known.bad, true, c)
		n, ok := impl.ConductorPart(c)
		checkNumber(t, n, ok, known.part, true, c)
		for kind, want := range map[string][]int{kindSplit: known.split, kindNonsplit: known.nonsplit, kindAdditive: known.cusp} {
			list, ok = impl.PrimesOfKind(c, kind)
			checkPrimes(t, list, ok, want, true, c, kind)
		}
		is, ok := impl.IsSemistableFromFive(c)
		checkBool(t, is, ok, len(known.cusp) == 0, true, c)
		text, ok := impl.ReductionText(c)
		checkText(t, text, ok, known.text, true, c)
		checkBadOf(t, c)
	}
}

func TestCurvesThatAreGoodFromFiveOn(t *testing.T) {
	list := []impl.Curve{curveOf(625, 0), curveOf(-625, 0), curveOf(1, 0), curveOf(-1, 0), curveOf(0, 1), curveOf(0, -432), curveOf(-15, 22), curveOf(6, 7), curveOf(-3, 1), curveOf(-972, 0), curveOf(0, 7776)}
	for _, c := range smallCurves() {
		if len(primesDividing(c)) == 0 {
			list = append(list, c)
		}
	}
	if len(list) < 60 {
		t.Error("too few curves", len(list))
	}
	for _, c := range list {
		primes, ok := impl.BadFromFive(c)
		checkPrimes(t, primes, ok, nil, true, c)
		n, ok := impl.ConductorPart(c)
		checkNumber(t, n, ok, 1, true, c)
		is, ok := impl.IsSemistableFromFive(c)
		checkBool(t, is, ok, true, true, c)
		text, ok := impl.ReductionText(c)
		checkText(t, text, ok, "", true, c)
		for _, kind := range []string{kindSplit, kindNonsplit, kindAdditive} {
			primes, ok = impl.PrimesOfKind(c, kind)
			checkPrimes(t, primes, ok, nil, true, c, kind)
		}
		for _, p := range fromFive()[:12] {
			text, ok = impl.ReductionKind(c, p)
			checkText(t, text, ok, kindGood, true, c, p)
		}
	}
}

// curvesWithGreatPrimes returns curves for which a prime greater than MaxPrime divides 4 A^3 + 27 B^2, with another bad prime, or without one.
func curvesWithGreatPrimes() []impl.Curve {
	list := []impl.Curve{
		curveOf(0, leastBeyond), curveOf(0, -leastBeyond), curveOf(0, 5*leastBeyond), curveOf(0, 9*leastBeyond), curveOf(0, 9973), curveOf(0, 7*1013),
		curveOf(-3, 2+leastBeyond), curveOf(-3, 2-leastBeyond), curveOf(1, 7), curveOf(mostCurveA, 1), curveOf(-mostCurveA, 1), curveOf(1, mostCurveB), curveOf(-1, -mostCurveB),
	}
	for _, c := range reducedCurves() {
		if _, fine := badOf(c); !fine {
			list = append(list, c)
		}
	}
	return list
}

func TestPrimesGreaterThanTheGreatest(t *testing.T) {
	withOthers := 0
	for _, c := range curvesWithGreatPrimes() {
		primes := primesDividing(c)
		if slices.Max(primes) <= greatestPrime {
			t.Error("no curve for this test", c)
		}
		checkBadOf(t, c)
		for _, kind := range []string{kindGood, ""} {
			list, ok := impl.PrimesOfKind(c, kind)
			checkPrimes(t, list, ok, nil, false, c, kind)
		}
		// Each prime within the limit is told nevertheless.
		for _, p := range append(primes, 5, 7, greatestPrime) {
			if p <= greatestPrime {
				checkReduction(t, c, p, reductionOf(c, p))
			}
		}
		if len(primes) > 1 {
			withOthers++
		}
	}
	if withOthers < 50 {
		t.Error("too few curves", withOthers)
	}
}

func TestTheGreatestBadPrime(t *testing.T) {
	for _, known := range badFor(greatestPrime) {
		checkBadOf(t, known.curve)
		checkReduction(t, known.curve, greatestPrime, reductionOf(known.curve, greatestPrime))
	}
	list, ok := impl.BadFromFive(curveOf(0, greatestPrime))
	checkPrimes(t, list, ok, []int{greatestPrime}, true)
	list, ok = impl.BadFromFive(curveOf(-3, 2+greatestPrime))
	checkPrimes(t, list, ok, []int{7, 11, 13, greatestPrime}, true)
	n, ok := impl.ConductorPart(curveOf(greatestPrime, 0))
	checkNumber(t, n, ok, greatestPrime*greatestPrime, true)
}

// noKinds are texts that are no kind of a bad prime.
func noKinds() []string {
	return []string{kindGood, "", " ", "Split", "SPLIT", "split ", " split", "spli", "splitt", "split\n", "split;", "non-split", "Nonsplit", "nonsplit\x00", "Additive", "additiv", "additive ", "multiplicative", "bad", "I1", "I0", "II", "5", "\xff", "split nonsplit", "splitnonsplit", "nonsplit,split"}
}

func TestTextsThatAreNoKind(t *testing.T) {
	for _, c := range []impl.Curve{curveOf(-16, 16), curveOf(-1, 0), curveOf(0, 5), curveOf(-432, 8208), curveOf(625, 0), curveOf(0, leastBeyond)} {
		for _, kind := range noKinds() {
			list, ok := impl.PrimesOfKind(c, kind)
			checkPrimes(t, list, ok, nil, false, c, kind)
		}
	}
}
