package tests

import (
	"math"
	"math/big"
	"slices"
	"testing"

	"loop.example/g01004/impl"
)

// The limits that the document names.
const (
	mostCoefficient = 1000
	mostPlace       = 10000
	mostPlaceDen    = 1000
	mostShift       = 10
	farthestRoot    = 1001
)

// cubicOf names a cubic shortly.
func cubicOf(a int, b int, c int, d int) impl.Cubic {
	return impl.Cubic{A: a, B: b, C: c, D: d}
}

// isLegalCubic reports by the document's definition alone whether a cubic is valid.
func isLegalCubic(f impl.Cubic) bool {
	for _, n := range []int{f.A, f.B, f.C, f.D} {
		if n < -mostCoefficient || n > mostCoefficient {
			return false
		}
	}
	return f.A != 0
}

// polynomial holds coefficients, the constant one first.
type polynomial []*big.Rat

// polynomialOf returns the polynomial of a cubic.
func polynomialOf(f impl.Cubic) polynomial {
	return polynomial{ratio(f.D, 1), ratio(f.C, 1), ratio(f.B, 1), ratio(f.A, 1)}
}

func ratio(num int, den int) *big.Rat {
	return big.NewRat(int64(num), int64(den))
}

// at returns the value as a sum of powers.
func (p polynomial) at(x *big.Rat) *big.Rat {
	sum, power := new(big.Rat), ratio(1, 1)
	for _, coefficient := range p {
		sum.Add(sum, new(big.Rat).Mul(coefficient, power))
		power = new(big.Rat).Mul(power, x)
	}
	return sum
}

// slope returns the derivative.
func (p polynomial) slope() polynomial {
	var slope polynomial
	for i, coefficient := range p[1:] {
		slope = append(slope, new(big.Rat).Mul(coefficient, ratio(i+1, 1)))
	}
	return slope
}

// restBy returns the opposite of the rest of p divided by q, without zeros at its end.
func (p polynomial) restBy(q polynomial) polynomial {
	rest := slices.Clone(p)
	for len(rest) >= len(q) {
		factor := new(big.Rat).Quo(rest[len(rest)-1], q[len(q)-1])
		over := len(rest) - len(q)
		for i, coefficient := range q {
			rest[over+i] = new(big.Rat).Sub(rest[over+i], new(big.Rat).Mul(factor, coefficient))
		}
		rest = rest[:len(rest)-1]
	}
	for len(rest) > 0 && rest[len(rest)-1].Sign() == 0 {
		rest = rest[:len(rest)-1]
	}
	for i := range rest {
		rest[i] = new(big.Rat).Neg(rest[i])
	}
	return rest
}

// sturmChain returns the polynomials whose changes of sign count the different real roots.
func sturmChain(f impl.Cubic) []polynomial {
	p := polynomialOf(f)
	chain := []polynomial{p, p.slope()}
	for rest := p.restBy(chain[1]); len(rest) > 0; {
		chain = append(chain, rest)
		rest = chain[len(chain)-2].restBy(rest)
	}
	return chain
}

// changesAt counts the changes of sign in a chain at x. The greatest common divisor, at the end, may have no root there.
func changesAt(chain []polynomial, x *big.Rat) int {
	changes, last := 0, 0
	for _, p := range chain {
		sign := p.at(x).Sign()
		if sign != 0 && sign == -last {
			changes++
		}
		if sign != 0 {
			last = sign
		}
	}
	return changes
}

// rootsBetween counts the different real roots between two numbers that are no roots, by Sturm's theorem.
func rootsBetween(f impl.Cubic, low *big.Rat, high *big.Rat) int {
	chain := sturmChain(f)
	return changesAt(chain, low) - changesAt(chain, high)
}

// sampleRoots returns fractions for cubics with known roots.
func sampleRoots() []impl.Fraction {
	return []impl.Fraction{
		frac(0, 1), frac(1, 1), frac(-1, 1), frac(2, 1), frac(-3, 1), frac(10, 1), frac(1, 2), frac(-1, 2), frac(3, 2), frac(-2, 3),
		frac(7, 10), frac(-9, 10), frac(1, 10), frac(-10, 1), frac(-10, 9),
	}
}

// cubicWithRoots returns n times the product of Den x - Num for three roots, and whether it is valid.
func cubicWithRoots(n int, r impl.Fraction, s impl.Fraction, t impl.Fraction) (impl.Cubic, bool) {
	f := cubicOf(
		n*r.Den*s.Den*t.Den,
		-n*(r.Num*s.Den*t.Den+r.Den*s.Num*t.Den+r.Den*s.Den*t.Num),
		n*(r.Num*s.Num*t.Den+r.Num*s.Den*t.Num+r.Den*s.Num*t.Num),
		-n*r.Num*s.Num*t.Num,
	)
	return f, isLegalCubic(f)
}

// knownCubic is the product of a factor and Den x - Num for three fractions. Its roots are these fractions, each of them once, in increasing order.
type knownCubic struct {
	cubic  impl.Cubic
	factor int
	three  [3]impl.Fraction
	roots  []impl.Fraction
}

// knownCubics returns those products of sample roots that are valid.
func knownCubics() []knownCubic {
	var list []knownCubic
	for _, r := range sampleRoots() {
		for _, s := range sampleRoots() {
			for _, t := range sampleRoots() {
				for _, n := range []int{1, -1, 6, -10} {
					if f, ok := cubicWithRoots(n, r, s, t); ok {
						list = append(list, knownCubic{f, n, [3]impl.Fraction{r, s, t}, increasing(r, s, t)})
					}
				}
			}
		}
	}
	return list
}

// increasing returns different fractions in increasing order.
func increasing(list ...impl.Fraction) []impl.Fraction {
	slices.SortFunc(list, func(a impl.Fraction, b impl.Fraction) int { return ratOf(a).Cmp(ratOf(b)) })
	return slices.Compact(list)
}

// smallCubics returns all cubics with coefficients up to 3.
func smallCubics() []impl.Cubic {
	var list []impl.Cubic
	for a := -3; a <= 3; a++ {
		for b := -3; b <= 3; b++ {
			for c := -3; c <= 3; c++ {
				for d := -3; d <= 3; d++ {
					if a != 0 {
						list = append(list, cubicOf(a, b, c, d))
					}
				}
			}
		}
	}
	return list
}

// greatCubics returns cubics whose coefficients are at the ends of the range, next to them, or next to 0.
func greatCubics() []impl.Cubic {
	var list []impl.Cubic
	ends := []int{-mostCoefficient, 1 - mostCoefficient, -1, 0, 1, mostCoefficient}
	for _, a := range ends {
		for _, b := range ends {
			for _, c := range ends {
				for _, d := range ends {
					if a != 0 {
						list = append(list, cubicOf(a, b, c, d))
					}
				}
			}
		}
	}
	return list
}

// sampleCubics returns valid cubics of all sizes, with and without rational roots.
func sampleCubics() []impl.Cubic {
	list := append(smallCubics(), greatCubics()...)
	for i, known := range knownCubics() {
		if i%10 == 0 {
			list = append(list, known.cubic)
		}
	}
	random := generator(5)
	for _, size := range []int{10, 100, mostCoefficient} {
		for range 200 {
			coefficient := func() int { return random.below(2*size+1) - size }
			if f := cubicOf(coefficient(), coefficient(), coefficient(), coefficient()); f.A != 0 {
				list = append(list, f)
			}
		}
	}
	return list
}

// invalidCubics returns cubics that break each one of the rules.
func invalidCubics() []impl.Cubic {
	list := []impl.Cubic{{}, cubicOf(0, 1, 1, 1), cubicOf(0, 0, 0, 1), cubicOf(0, mostCoefficient, -mostCoefficient, 0), cubicOf(0, 2, -3, 1), cubicOf(0, 1, 0, 0)}
	for _, n := range []int{mostCoefficient + 1, mostCoefficient + 2, 1 << 16, 1 << 32, 1<<32 + 1, 1 << 62, math.MaxInt - 1, math.MaxInt, -1 << 32, math.MinInt + 1, math.MinInt} {
		for _, m := range []int{n, max(-n, -math.MaxInt)} {
			list = append(list, cubicOf(m, 0, 0, 0), cubicOf(m, 1, -1, 1), cubicOf(1, m, 0, 0), cubicOf(-1, m, 1, 1), cubicOf(1, 0, m, 0))
			list = append(list, cubicOf(2, 1, m, -1), cubicOf(1, 0, 0, m), cubicOf(-3, 2, 1, m), cubicOf(m, m, m, m), cubicOf(0, m, 0, m), cubicOf(m, 0, -m, 0))
		}
	}
	return list
}

// checkCubic compares a result with the cubic that it should be. What should fail has the zero cubic.
func checkCubic(t *testing.T, got impl.Cubic, ok bool, want impl.Cubic, fine bool, what ...any) {
	t.Helper()
	if got != want || ok != fine {
		t.Errorf("%v: got %v, %v, want %v, %v", what, got, ok, want, fine)
	}
}

// checkRoots compares the rational roots with the ones that there should be.
func checkRoots(t *testing.T, f impl.Cubic, want ...impl.Fraction) {
	t.Helper()
	if got, ok := impl.RationalRoots(f); !slices.Equal(got, want) || !ok {
		t.Errorf("the roots of %v: got %v, %v, want %v", f, got, ok, want)
	}
	if is, ok := impl.IsIrreducibleCubic(f); is != (len(want) == 0) || !ok {
		t.Errorf("%v is irreducible: got %v, %v", f, is, ok)
	}
}

// checkCells compares the cells with the ones that there should be.
func checkCells(t *testing.T, f impl.Cubic, want ...int) {
	t.Helper()
	if got, ok := impl.RootCells(f); !slices.Equal(got, want) || !ok {
		t.Errorf("the cells of %v: got %v, %v, want %v", f, got, ok, want)
	}
}
