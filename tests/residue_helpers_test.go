package tests

import (
	"math"
	"math/big"
	"testing"
)

// The limits that the document names.
const (
	greatestPrime    = 997
	mostNumber       = 1000000000000
	mostExponent     = 1000000000
	mostFactored     = 10000000000
	leastBeyond      = 1009       // the least prime that is too great
	greatestFactored = 9999999967 // the greatest prime that may be factored
)

// isPrime reports whether any number is a prime.
func isPrime(n int) bool {
	return n > 1 && big.NewInt(int64(n)).ProbablyPrime(0)
}

// allPrimes returns the primes that a call may have.
func allPrimes() []int {
	var list []int
	for n := range greatestPrime + 1 {
		if isPrime(n) {
			list = append(list, n)
		}
	}
	return list
}

// invalidPrimes returns numbers modulo which there are no residues: no primes, and primes that are too great.
func invalidPrimes() []int {
	list := []int{
		math.MinInt, math.MinInt + 1, -1 << 32, -greatestPrime, -7, -3, -2, -1, 0, 1,
		greatestPrime + 1, 999, 1000, leastBeyond, 1013, 7919, 1<<31 - 1, 1 << 31, 1<<32 + 2, 1<<32 + 7, 999999999989, mostNumber,
		math.MaxInt - 1, math.MaxInt,
	}
	for n := 4; n <= greatestPrime; n++ {
		if !isPrime(n) {
			list = append(list, n)
		}
	}
	return list
}

// invalidNumbers returns numbers that stand for no residue.
func invalidNumbers() []int {
	return []int{
		math.MinInt, math.MinInt + 1, -1 << 62, -mostNumber - 2, -mostNumber - 1,
		mostNumber + 1, mostNumber + 2, 1 << 62, math.MaxInt - 1, math.MaxInt,
	}
}

// numbersFor returns numbers with residues of all kinds modulo p: all of 0..p - 1 with both signs, multiples of p, and the ends of the range.
func numbersFor(p int) []int {
	greatestMultiple := mostNumber / p * p
	list := []int{
		mostNumber, mostNumber - 1, mostNumber/2 + 1, greatestMultiple, greatestMultiple - 1, greatestMultiple - p + 1,
		p, 2 * p, p + 1, 2*p - 1, 2*p + 1, p * p, p*p - 1, p*p + 1, p * p * p,
	}
	random := generator(uint64(p))
	for range 5 {
		list = append(list, random.below(mostExponent), random.below(1000)*mostExponent+random.below(mostExponent))
	}
	for residue := range p {
		list = append(list, residue)
	}
	for _, n := range list {
		list = append(list, -n)
	}
	return list
}

// someNumbersFor returns all of these numbers for small primes, and about a hundred of them for others.
func someNumbersFor(p int) []int {
	var list []int
	numbers := numbersFor(p)
	for i := 0; i < len(numbers); i += 1 + len(numbers)/100 {
		list = append(list, numbers[i])
	}
	return list
}

// residue returns the residue by the rules of package big.
func residue(a int, p int) int {
	return int(new(big.Int).Mod(big.NewInt(int64(a)), big.NewInt(int64(p))).Int64())
}

// powersOf returns the residues of a to the powers 0, 1, .. before one of them comes again.
func powersOf(a int, p int) []int {
	var list []int
	seen := make([]bool, p)
	for power := 1; !seen[power]; power = power * residue(a, p) % p {
		seen[power] = true
		list = append(list, power)
	}
	return list
}

// checkNumber compares a result with the one that it should be. What should fail has the result 0.
func checkNumber(t *testing.T, got int, ok bool, want int, fine bool, what ...any) {
	t.Helper()
	if got != want || ok != fine {
		t.Errorf("%v: got %d, %v, want %d, %v", what, got, ok, want, fine)
	}
}
