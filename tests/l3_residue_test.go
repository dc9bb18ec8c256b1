package tests

import (
	"math"
	"math/big"
	"slices"
	"testing"

	"loop.example/g01004/impl"
)

func TestResidueExample(t *testing.T) {
	n, ok := impl.InverseOf(3, 7)
	checkNumber(t, n, ok, 5, true, "inverse")
	n, ok = impl.SquareRoot(2, 7)
	checkNumber(t, n, ok, 3, true, "square root")
	n, ok = impl.PrimitiveRoot(7)
	checkNumber(t, n, ok, 3, true, "primitive root")
	n, ok = impl.LogarithmOf(6, 3, 7)
	checkNumber(t, n, ok, 3, true, "logarithm")
	checkFactors(t, 360, [][]int{{2, 3}, {3, 2}, {5, 1}})
	if impl.MaxPrime != greatestPrime {
		t.Error("MaxPrime is", impl.MaxPrime)
	}
}

func TestPrimeNumbers(t *testing.T) {
	for n := -1100; n <= 3000; n++ {
		want := isPrime(n) && n <= greatestPrime
		if impl.IsPrimeNumber(n) != want {
			t.Error(n, "is a prime:", !want)
		}
	}
	for _, n := range []int{2, 3, 5, 31, 991, 997} {
		if !impl.IsPrimeNumber(n) {
			t.Error(n, "is no prime")
		}
	}
	for _, n := range invalidPrimes() {
		if impl.IsPrimeNumber(n) {
			t.Error(n, "is a prime")
		}
	}
}

func TestPrimesUpTo(t *testing.T) {
	want := []int{}
	for n := 1; n <= greatestPrime; n++ {
		if isPrime(n) {
			want = append(want, n)
		}
		if got, ok := impl.PrimesUpTo(n); !slices.Equal(got, want) || !ok {
			t.Errorf("up to %d: got %v, %v", n, got, ok)
		}
	}
	if len(want) != 168 {
		t.Error("the test has", len(want), "primes")
	}
	for _, n := range []int{0, -1, -2, -997, greatestPrime + 1, 1000, leastBeyond, math.MinInt, math.MinInt + 1, math.MaxInt} {
		if got, ok := impl.PrimesUpTo(n); got != nil || ok {
			t.Errorf("up to %d: got %v, %v", n, got, ok)
		}
	}
}

func TestResidues(t *testing.T) {
	for _, p := range allPrimes() {
		for _, a := range numbersFor(p) {
			got, ok := impl.ResidueOf(a, p)
			checkNumber(t, got, ok, residue(a, p), true, a, p)
		}
	}
	got, ok := impl.ResidueOf(-1, 997)
	checkNumber(t, got, ok, 996, true, -1, 997)
	got, ok = impl.ResidueOf(-1, 2)
	checkNumber(t, got, ok, 1, true, -1, 2)
}

func TestInversesHaveTheProductOne(t *testing.T) {
	for _, p := range allPrimes() {
		for _, a := range numbersFor(p) {
			r := residue(a, p)
			got, ok := impl.InverseOf(a, p)
			if r == 0 {
				checkNumber(t, got, ok, 0, false, a, p)
				continue
			}
			if !ok || got < 1 || got >= p || got*r%p != 1 {
				t.Errorf("the inverse of %d modulo %d: got %d, %v", a, p, got, ok)
			}
			back, ok := impl.InverseOf(got, p)
			checkNumber(t, back, ok, r, true, "back", a, p)
		}
	}
}

func TestPowers(t *testing.T) {
	random := generator(3)
	for _, p := range allPrimes() {
		exponents := []int{0, 1, 2, 3, p - 2, p - 1, p, p + 1, mostExponent - 1, mostExponent, random.below(p), random.below(mostExponent)}
		for i, a := range numbersFor(p) {
			n := exponents[i%len(exponents)]
			checkPower(t, a, n, p)
			checkPower(t, a, exponents[(i+i/len(exponents)+1)%len(exponents)], p)
		}
	}
	for _, p := range []int{2, 3, 5, 7, 997} {
		for _, a := range []int{-mostNumber, -p, -1, 0, 1, 2, p, p + 1, mostNumber} {
			for n := range 40 {
				checkPower(t, a, n, p)
			}
			for n := mostExponent - 40; n <= mostExponent; n++ {
				checkPower(t, a, n, p)
			}
		}
	}
}

func checkPower(t *testing.T, a int, n int, p int) {
	t.Helper()
	want := new(big.Int).Exp(big.NewInt(int64(residue(a, p))), big.NewInt(int64(n)), big.NewInt(int64(p)))
	got, ok := impl.PowerOf(a, n, p)
	checkNumber(t, got, ok, int(want.Int64()), true, a, "to the power", n, "modulo", p)
}

func TestPowersOfZero(t *testing.T) {
	for _, p := range allPrimes() {
		for _, a := range []int{0, p, -p, mostNumber / p * p} {
			one, ok := impl.PowerOf(a, 0, p)
			checkNumber(t, one, ok, 1, true, a, 0, p)
			for _, n := range []int{1, 2, p - 1, p, mostExponent} {
				zero, ok := impl.PowerOf(a, n, p)
				checkNumber(t, zero, ok, 0, true, a, n, p)
			}
		}
	}
}

func TestExponentsOutOfRangeFail(t *testing.T) {
	for _, n := range []int{-1, -2, -mostExponent, math.MinInt, math.MinInt + 1, mostExponent + 1, mostExponent + 2, 1 << 32, 1 << 62, math.MaxInt} {
		for _, p := range []int{2, 3, 101, 997} {
			for _, a := range []int{0, 1, -1, 2, p, mostNumber} {
				got, ok := impl.PowerOf(a, n, p)
				checkNumber(t, got, ok, 0, false, a, n, p)
			}
		}
	}
}

func TestSquareSymbols(t *testing.T) {
	for _, p := range allPrimes()[1:] {
		for _, a := range numbersFor(p) {
			want := big.Jacobi(big.NewInt(int64(a)), big.NewInt(int64(p)))
			got, ok := impl.SquareSymbol(a, p)
			checkNumber(t, got, ok, want, true, a, p)
		}
	}
	for _, a := range numbersFor(2) {
		got, ok := impl.SquareSymbol(a, 2)
		checkNumber(t, got, ok, 0, false, a, 2)
	}
}

func TestSquareRootsAreTheLeast(t *testing.T) {
	for _, p := range allPrimes() {
		least := map[int]int{}
		for root := p - 1; root >= 0; root-- {
			least[root*root%p] = root
		}
		for _, a := range numbersFor(p) {
			want, fine := least[residue(a, p)]
			got, ok := impl.SquareRoot(a, p)
			checkNumber(t, got, ok, want, fine, a, p)
			if symbol, has := impl.SquareSymbol(a, p); has && (symbol >= 0) != ok {
				t.Error("the symbol of", a, "modulo", p, "is", symbol, "and its root", got, ok)
			}
		}
	}
}

func TestOrders(t *testing.T) {
	for _, p := range allPrimes() {
		for _, a := range someNumbersFor(p) {
			got, ok := impl.OrderOf(a, p)
			if residue(a, p) == 0 {
				checkNumber(t, got, ok, 0, false, a, p)
			} else {
				checkNumber(t, got, ok, len(powersOf(a, p)), true, a, p)
			}
		}
	}
	for a := range greatestPrime - 1 {
		got, ok := impl.OrderOf(a+1, greatestPrime)
		checkNumber(t, got, ok, len(powersOf(a+1, greatestPrime)), true, a+1)
	}
}

func TestPrimitiveRootsHaveTheFullOrder(t *testing.T) {
	for _, p := range allPrimes() {
		got, ok := impl.PrimitiveRoot(p)
		least := 1
		for len(powersOf(least, p)) < p-1 {
			least++
		}
		checkNumber(t, got, ok, least, true, p)
		order, ok := impl.OrderOf(got, p)
		checkNumber(t, order, ok, p-1, true, "order of", got, p)
	}
	// The last two are the greatest ones: 191 has the root 19, and 409 has 21.
	for p, want := range map[int]int{2: 1, 3: 2, 5: 2, 7: 3, 23: 5, 41: 6, 71: 7, 997: 7, 191: 19, 409: 21} {
		got, ok := impl.PrimitiveRoot(p)
		checkNumber(t, got, ok, want, true, p)
	}
}

func TestLogarithms(t *testing.T) {
	for _, p := range allPrimes() {
		numbers := someNumbersFor(p)
		if p < 12 {
			for _, g := range numbers {
				checkLogarithms(t, numbers, g, p)
			}
			continue
		}
		root, _ := impl.PrimitiveRoot(p)
		for _, g := range []int{0, 1, 2, p - 1, root, -root * root, p + root*root*root, -p, mostNumber, -mostNumber} {
			checkLogarithms(t, numbers, g, p)
		}
	}
	for _, p := range []int{191, 991, greatestPrime} {
		root, _ := impl.PrimitiveRoot(p)
		for _, g := range []int{root, root * root, -root, p - 1} {
			checkLogarithms(t, numbersFor(p), g, p)
		}
	}
}

// checkLogarithms compares the logarithms of many numbers to one base.
func checkLogarithms(t *testing.T, numbers []int, g int, p int) {
	t.Helper()
	powers := powersOf(g, p)
	if residue(g, p) == 0 {
		powers = nil
	}
	least := map[int]int{}
	for n, power := range powers {
		least[power] = n
	}
	for _, a := range numbers {
		want, fine := least[residue(a, p)]
		got, ok := impl.LogarithmOf(a, g, p)
		checkNumber(t, got, ok, want, fine, a, g, p)
	}
}

func TestLogarithmsThatDoNotExist(t *testing.T) {
	none := [][3]int{
		{0, 3, 7}, {7, 3, 7}, {-14, 3, 7}, {3, 2, 7}, {2, 1, 3}, {2, 6, 7}, {0, 1, 2}, {2, 1, 2},
		{1, 0, 7}, {1, 7, 7}, {1, -7, 7}, {0, 0, 7}, {1, 0, 2}, {0, 0, 2}, {1, 994009, 997},
	}
	for _, c := range none {
		got, ok := impl.LogarithmOf(c[0], c[1], c[2])
		checkNumber(t, got, ok, 0, false, c)
	}
	zero := [][3]int{{1, 3, 7}, {8, 3, 7}, {-6, 3, 7}, {1, 1, 7}, {1, 1, 2}, {1, 2, 997}, {mostNumber, 1, 3}}
	for _, c := range zero {
		got, ok := impl.LogarithmOf(c[0], c[1], c[2])
		checkNumber(t, got, ok, 0, true, c)
	}
	got, ok := impl.LogarithmOf(-mostNumber, 2, 3)
	checkNumber(t, got, ok, 1, true, "the logarithm of 2 modulo 3")
}

func TestValuations(t *testing.T) {
	for _, p := range allPrimes() {
		for _, a := range numbersFor(p) {
			checkValuation(t, a, p)
		}
		power := 1
		for k := 0; power <= mostNumber; k++ {
			got, ok := impl.ValuationOf(power, p)
			checkNumber(t, got, ok, k, true, power, p)
			checkValuation(t, mostNumber/power*power, p)
			checkValuation(t, -power, p)
			power *= p
		}
	}
	for a := -300; a <= 300; a++ {
		for _, p := range []int{2, 3, 5, 7, 11, 13, 17} {
			checkValuation(t, a, p)
		}
	}
	got, ok := impl.ValuationOf(mostNumber, 2)
	checkNumber(t, got, ok, 12, true, mostNumber, 2)
	got, ok = impl.ValuationOf(-1<<39, 2)
	checkNumber(t, got, ok, 39, true, "the greatest valuation")
}

// checkValuation checks that the power with the valuation divides a, and the next one does not.
func checkValuation(t *testing.T, a int, p int) {
	t.Helper()
	got, ok := impl.ValuationOf(a, p)
	if a == 0 {
		checkNumber(t, got, ok, 0, false, a, p)
		return
	}
	power := new(big.Int).Exp(big.NewInt(int64(p)), big.NewInt(int64(got)), nil)
	quotient, rest := new(big.Int).QuoRem(big.NewInt(int64(a)), power, new(big.Int))
	if !ok || got < 0 || rest.Sign() != 0 || residue(int(quotient.Int64()), p) == 0 {
		t.Errorf("the valuation of %d at %d: got %d, %v", a, p, got, ok)
	}
}

func TestFactorsMultiplyOut(t *testing.T) {
	for n := 1; n <= 20000; n++ {
		checkProduct(t, n)
	}
	for n := mostFactored - 200; n <= mostFactored; n++ {
		checkProduct(t, n)
	}
	for n := 99991*99991 - 30; n <= 99991*99991+30; n++ {
		checkProduct(t, n)
	}
	random := generator(4)
	for range 300 {
		checkProduct(t, 1+random.below(mostExponent))
		checkProduct(t, 1+random.below(100000)*random.below(100000))
	}
}

// checkProduct checks that the factors are increasing primes that multiply out.
func checkProduct(t *testing.T, n int) {
	t.Helper()
	list, ok := impl.FactorsOf(n)
	product := 1
	last := 1
	for _, factor := range list {
		if len(factor) != 2 || factor[1] < 1 || factor[0] <= last || !isPrime(factor[0]) {
			t.Fatalf("the factors of %d: got %v, %v", n, list, ok)
		}
		last = factor[0]
		for range factor[1] {
			product *= factor[0]
		}
	}
	if !ok || product != n {
		t.Errorf("the factors of %d: got %v, %v", n, list, ok)
	}
}

func TestFactorsOfSpecialNumbers(t *testing.T) {
	checkFactors(t, 1, [][]int{})
	checkFactors(t, 2, [][]int{{2, 1}})
	checkFactors(t, 4, [][]int{{2, 2}})
	checkFactors(t, greatestPrime, [][]int{{greatestPrime, 1}})
	checkFactors(t, leastBeyond, [][]int{{leastBeyond, 1}})
	checkFactors(t, greatestPrime*leastBeyond, [][]int{{greatestPrime, 1}, {leastBeyond, 1}})
	checkFactors(t, leastBeyond*leastBeyond, [][]int{{leastBeyond, 2}})
	checkFactors(t, 99991*99991, [][]int{{99991, 2}})
	checkFactors(t, 99989*99991, [][]int{{99989, 1}, {99991, 1}})
	checkFactors(t, 2*4999999937, [][]int{{2, 1}, {4999999937, 1}})
	checkFactors(t, greatestFactored, [][]int{{greatestFactored, 1}})
	checkFactors(t, 1<<33, [][]int{{2, 33}})
	checkFactors(t, 6469693230, [][]int{{2, 1}, {3, 1}, {5, 1}, {7, 1}, {11, 1}, {13, 1}, {17, 1}, {19, 1}, {23, 1}, {29, 1}})
	checkFactors(t, mostFactored-1, [][]int{{3, 2}, {11, 1}, {41, 1}, {271, 1}, {9091, 1}})
	checkFactors(t, mostFactored, [][]int{{2, 10}, {5, 10}})
}

// checkFactors compares the factors with the ones that are written down.
func checkFactors(t *testing.T, n int, want [][]int) {
	t.Helper()
	if got, ok := impl.FactorsOf(n); !slices.EqualFunc(got, want, slices.Equal) || !ok {
		t.Errorf("the factors of %d: got %v, %v, want %v", n, got, ok, want)
	}
}

func TestFactorsOutOfRangeFail(t *testing.T) {
	for _, n := range []int{0, -1, -2, -360, -mostFactored, math.MinInt, math.MinInt + 1, mostFactored + 1, mostFactored + 2, 1 << 40, math.MaxInt} {
		if got, ok := impl.FactorsOf(n); got != nil || ok {
			t.Errorf("the factors of %d: got %v, %v", n, got, ok)
		}
	}
}
