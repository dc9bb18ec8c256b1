package impl

import (
	"cmp"
	"math/bits"
	"strconv"
	"strings"
)

const MaxLimbs = 400
const LimbBase = 10000

// limbDigits is the number of decimal digits in one limb.
const limbDigits = 4

// maxWholeNumber is the greatest absolute value of a number for WholeOf.
const maxWholeNumber = 1000000000000000

// maxWholeDivisor is the greatest divisor: a rest below it, moved up by one limb, still fits an int.
const maxWholeDivisor = 1000000000000

// maxWholePower is the greatest exponent of PowerOfWhole.
const maxWholePower = 64

type Whole struct {
	Negative bool
	Limbs    []int
}

// IsWhole reports whether a whole is valid.
func IsWhole(a Whole) bool {
	n := len(a.Limbs)
	if n > MaxLimbs {
		return false
	}
	if n == 0 {
		return !a.Negative
	}
	for _, limb := range a.Limbs {
		if limb < 0 || limb >= LimbBase {
			return false
		}
	}
	return a.Limbs[n-1] != 0
}

// WholeOf returns the whole of a number in -1000000000000000..1000000000000000.
func WholeOf(n int) (Whole, bool) {
	if n < -maxWholeNumber || n > maxWholeNumber {
		return Whole{}, false
	}
	var limbs []int
	for rest := max(n, -n); rest > 0; rest /= LimbBase {
		limbs = append(limbs, rest%LimbBase)
	}
	return wholeWith(n < 0, limbs)
}

// AddWholes returns the sum of two wholes.
func AddWholes(a Whole, b Whole) (Whole, bool) {
	if !IsWhole(a) || !IsWhole(b) {
		return Whole{}, false
	}
	return addSigned(a, b)
}

// SubtractWholes returns a minus b.
func SubtractWholes(a Whole, b Whole) (Whole, bool) {
	if !IsWhole(a) || !IsWhole(b) {
		return Whole{}, false
	}
	return addSigned(a, Whole{Negative: !b.Negative, Limbs: b.Limbs})
}

// MultiplyWholes returns the product of two wholes.
func MultiplyWholes(a Whole, b Whole) (Whole, bool) {
	if !IsWhole(a) || !IsWhole(b) {
		return Whole{}, false
	}
	return wholeWith(a.Negative != b.Negative, multiplyLimbs(a.Limbs, b.Limbs))
}

// DivideWhole returns a divided by n, in 1..1000000000000, rounded down, and the rest, in 0..n - 1.
func DivideWhole(a Whole, n int) (Whole, int, bool) {
	if !IsWhole(a) || n < 1 || n > maxWholeDivisor {
		return Whole{}, 0, false
	}
	limbs, rest := divideLimbs(a.Limbs, n)
	if a.Negative && rest > 0 {
		// Rounding down leads away from 0 here. A rest needs n > 1, so the quotient has room for 1 more.
		limbs, rest = combineLimbs(limbs, []int{1}, 1), n-rest
	}
	quotient, ok := wholeWith(a.Negative, limbs)
	return quotient, rest, ok
}

// CompareWholes returns -1, 0 or 1 if a is less than, equal to or greater than b.
func CompareWholes(a Whole, b Whole) (int, bool) {
	if !IsWhole(a) || !IsWhole(b) {
		return 0, false
	}
	switch {
	case a.Negative && b.Negative:
		return compareLimbs(b.Limbs, a.Limbs), true
	case a.Negative:
		return -1, true
	case b.Negative:
		return 1, true
	}
	return compareLimbs(a.Limbs, b.Limbs), true
}

// BitLength returns the least number k for which the absolute value is less than 2 to the power k.
func BitLength(a Whole) (int, bool) {
	if !IsWhole(a) {
		return 0, false
	}
	// As many bits at once as a divisor has room for.
	const step = 39
	length, rest := 0, 0
	for limbs := a.Limbs; len(limbs) > 0; {
		limbs, rest = divideLimbs(limbs, 1<<step)
		if len(limbs) == 0 {
			return length + bits.Len(uint(rest)), true
		}
		length += step
	}
	return 0, true
}

// DivisorWith returns the greatest common divisor of a and n, in 1..1000000000000.
func DivisorWith(a Whole, n int) (int, bool) {
	if !IsWhole(a) || n < 1 || n > maxWholeDivisor {
		return 0, false
	}
	_, rest := divideLimbs(a.Limbs, n)
	return commonDivisor(n, rest), true
}

// PowerOfWhole returns a to the power n, in 0..64; 0 to the power 0 is 1.
func PowerOfWhole(a Whole, n int) (Whole, bool) {
	if !IsWhole(a) || n < 0 || n > maxWholePower {
		return Whole{}, false
	}
	power := Whole{Limbs: []int{1}}
	// From the highest bit on, no power on the way is longer than the result, so that one that is too long means that the result is, too.
	for i := bits.Len(uint(n)) - 1; i >= 0; i-- {
		var ok bool
		power, ok = MultiplyWholes(power, power)
		if ok && n>>i&1 == 1 {
			power, ok = MultiplyWholes(power, a)
		}
		if !ok {
			return Whole{}, false
		}
	}
	return power, true
}

// WholeText returns the decimal digits, with a sign - for negative ones.
func WholeText(a Whole) (string, bool) {
	if !IsWhole(a) {
		return "", false
	}
	if len(a.Limbs) == 0 {
		return "0", true
	}
	var text strings.Builder
	if a.Negative {
		text.WriteByte('-')
	}
	last := len(a.Limbs) - 1
	text.WriteString(strconv.Itoa(a.Limbs[last]))
	for i := last - 1; i >= 0; i-- {
		digits := strconv.Itoa(a.Limbs[i])
		text.WriteString(strings.Repeat("0", limbDigits-len(digits)))
		text.WriteString(digits)
	}
	return text.String(), true
}

// ParseWhole returns the whole with a WholeText. It fails if there is none.
func ParseWhole(s string) (Whole, bool) {
	digits, negative := strings.CutPrefix(s, "-")
	if digits == "0" {
		return Whole{}, !negative
	}
	n := len(digits)
	if n > MaxLimbs*limbDigits || !isPositiveDecimal(digits) {
		return Whole{}, false
	}
	limbs := make([]int, (n+limbDigits-1)/limbDigits)
	for i, digit := range digits {
		place := (n - 1 - i) / limbDigits
		limbs[place] = 10*limbs[place] + int(digit-'0')
	}
	return wholeWith(negative, limbs)
}

// isPositiveDecimal reports whether a text is the decimal form of a number greater than 0.
func isPositiveDecimal(s string) bool {
	for _, r := range s {
		if r < '0' || r > '9' {
			return false
		}
	}
	return s != "" && s[0] != '0'
}

// wholeWith returns the whole with limbs that may end in zeros, and keeps the slice. It fails if too many limbs are left.
func wholeWith(negative bool, limbs []int) (Whole, bool) {
	limbs = trimLimbs(limbs)
	if len(limbs) > MaxLimbs {
		return Whole{}, false
	}
	if len(limbs) == 0 {
		return Whole{}, true
	}
	return Whole{Negative: negative, Limbs: limbs}, true
}

// addSigned returns the sum of two wholes. A negative 0 counts as 0 here.
func addSigned(a Whole, b Whole) (Whole, bool) {
	if a.Negative == b.Negative {
		return wholeWith(a.Negative, combineLimbs(a.Limbs, b.Limbs, 1))
	}
	if compareLimbs(a.Limbs, b.Limbs) < 0 {
		a, b = b, a
	}
	return wholeWith(a.Negative, combineLimbs(a.Limbs, b.Limbs, -1))
}

// newCarry returns a function that turns the sums of the places, given from the last place on, into limbs. It adds what is over at a place to the next one.
func newCarry() func(int) int {
	over := 0
	return func(sum int) int {
		sum += over
		limb := sum % LimbBase
		if limb < 0 {
			limb += LimbBase
		}
		over = (sum - limb) / LimbBase
		return limb
	}
}

// combineLimbs returns a plus sign times b, for a sign of 1, or of -1 if a is not less than b.
func combineLimbs(a []int, b []int, sign int) []int {
	result := make([]int, max(len(a), len(b))+1)
	carry := newCarry()
	for i := range result {
		result[i] = carry(limbAt(a, i) + sign*limbAt(b, i))
	}
	return result
}

// multiplyLimbs returns the product. The sums of its places fit an int for many more limbs than wholes have.
func multiplyLimbs(a []int, b []int) []int {
	result := make([]int, len(a)+len(b))
	for i, x := range a {
		for k, y := range b {
			result[i+k] += x * y
		}
	}
	carry := newCarry()
	for i, sum := range result {
		result[i] = carry(sum)
	}
	return result
}

// divideLimbs returns the quotient without zeros at its end, and the rest.
func divideLimbs(a []int, n int) ([]int, int) {
	quotient := make([]int, len(a))
	rest := 0
	for i := len(a) - 1; i >= 0; i-- {
		rest = rest*LimbBase + a[i]
		quotient[i] = rest / n
		rest %= n
	}
	return trimLimbs(quotient), rest
}

// compareLimbs returns -1, 0 or 1 as CompareWholes does. Neither list ends in a zero.
func compareLimbs(a []int, b []int) int {
	if len(a) != len(b) {
		return cmp.Compare(len(a), len(b))
	}
	for i := len(a) - 1; i >= 0; i-- {
		if a[i] != b[i] {
			return cmp.Compare(a[i], b[i])
		}
	}
	return 0
}

// limbAt returns the limb at a place, which is 0 behind the end.
func limbAt(limbs []int, i int) int {
	if i < len(limbs) {
		return limbs[i]
	}
	return 0
}

// trimLimbs returns limbs without the zeros at their end.
func trimLimbs(limbs []int) []int {
	n := len(limbs)
	for n > 0 && limbs[n-1] == 0 {
		n--
	}
	return limbs[:n]
}

// commonDivisor returns the greatest common divisor of two numbers of at least 0, not both 0.
func commonDivisor(a int, b int) int {
	for b != 0 {
		a, b = b, a%b
	}
	return a
}
