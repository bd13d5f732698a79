package impl

import (
	"cmp"
	"math/bits"
	"slices"
	"strings"
)

// Constants of chapter 2.
const (
	LimbBase = 1000000
	MaxLimbs = 40
	MaxPower = 800
)

const (
	// limbDigits is the number of decimal digits of a limb: LimbBase is a power of ten.
	limbDigits = 6
	// smallLimbs is the number of limbs of MaxValue.
	smallLimbs = 3
)

// IsNatural reports whether a list is a natural.
func IsNatural(n []int64) bool {
	if len(n) > MaxLimbs || len(n) > 0 && n[len(n)-1] == 0 {
		return false
	}
	return areBelow(n, LimbBase)
}

func areNaturals(lists ...[]int64) bool { return eachIs(IsNatural, lists) }

func eachIs[V any](valid func(V) bool, list []V) bool {
	for _, element := range list {
		if !valid(element) {
			return false
		}
	}
	return true
}

// areBelow reports whether all numbers of a list are from 0 to limit - 1.
func areBelow(list []int64, limit int64) bool {
	return !slices.ContainsFunc(list, func(n int64) bool { return !isBelow(n, limit) })
}

// isBelow reports whether a number is from 0 to limit - 1.
func isBelow(n, limit int64) bool { return n >= 0 && n < limit }

// NaturalOf returns the natural with a value.
func NaturalOf(n int64) ([]int64, int64) {
	if n < 0 || n > MaxValue {
		return nil, ErrRange
	}
	return limbsOf(n), OK
}

// SmallOf returns the value of a natural.
func SmallOf(n []int64) (int64, int64) {
	if !IsNatural(n) {
		return 0, ErrInvalid
	}
	if len(n) > smallLimbs {
		return 0, ErrFull
	}
	var value int64
	for _, limb := range slices.Backward(n) {
		value = value*LimbBase + limb
	}
	if value > MaxValue {
		return 0, ErrFull
	}
	return value, OK
}

// NaturalText returns the decimal text of a natural.
func NaturalText(n []int64) string {
	if !IsNatural(n) {
		return ""
	}
	if len(n) == 0 {
		return "0"
	}
	var text strings.Builder
	for i, limb := range slices.Backward(n) {
		digits := Decimal(limb)
		if i < len(n)-1 {
			text.WriteString(strings.Repeat("0", limbDigits-len(digits)))
		}
		text.WriteString(digits)
	}
	return text.String()
}

// ReadNatural returns the natural with a text.
func ReadNatural(s string) ([]int64, bool) {
	if s == "0" {
		return nil, true
	}
	if s == "" || len(s) > MaxLimbs*limbDigits || s[0] == '0' {
		return nil, false
	}
	n := make([]int64, (len(s)+limbDigits-1)/limbDigits)
	for i, r := range s {
		if !isDigit(r) {
			return nil, false
		}
		limb := (len(s) - 1 - i) / limbDigits
		n[limb] = n[limb]*10 + int64(r-'0')
	}
	return n, true
}

// CompareNaturals compares two naturals.
func CompareNaturals(a, b []int64) (int64, int64) {
	if !areNaturals(a, b) {
		return 0, ErrInvalid
	}
	return compareLimbs(a, b), OK
}

// AddNaturals returns a sum.
func AddNaturals(a, b []int64) ([]int64, int64) {
	if !areNaturals(a, b) {
		return nil, ErrInvalid
	}
	return withinLimbs(addLimbs(a, b))
}

// SubtractNaturals returns a difference.
func SubtractNaturals(a, b []int64) ([]int64, int64) {
	if !areNaturals(a, b) {
		return nil, ErrInvalid
	}
	if compareLimbs(a, b) < 0 {
		return nil, ErrRange
	}
	return subtractLimbs(a, b), OK
}

// MultiplyNaturals returns a product.
func MultiplyNaturals(a, b []int64) ([]int64, int64) {
	if !areNaturals(a, b) {
		return nil, ErrInvalid
	}
	return withinLimbs(multiplyLimbs(a, b))
}

// DivideNaturals returns a quotient and a remainder.
func DivideNaturals(a, b []int64) ([]int64, []int64, int64) {
	if !areNaturals(a, b) {
		return nil, nil, ErrInvalid
	}
	if len(b) == 0 {
		return nil, nil, ErrRange
	}
	quotient, rest := divideLimbs(a, b)
	return quotient, rest, OK
}

// PowerNatural returns a power.
func PowerNatural(a []int64, exponent int64) ([]int64, int64) {
	if !IsNatural(a) {
		return nil, ErrInvalid
	}
	if exponent < 0 || exponent > MaxPower {
		return nil, ErrRange
	}
	power := limbsOf(1)
	for range exponent {
		power = multiplyLimbs(power, a)
		// Only a base of at least 2 comes here, whose further powers are greater still.
		if len(power) > MaxLimbs {
			return nil, ErrFull
		}
	}
	return power, OK
}

// GcdNaturals returns the greatest common divisor.
func GcdNaturals(a, b []int64) ([]int64, int64) {
	if !areNaturals(a, b) {
		return nil, ErrInvalid
	}
	for len(b) > 0 {
		_, rest := divideLimbs(a, b)
		a, b = b, rest
	}
	return slices.Clone(a), OK
}

// RootNatural returns a square root, rounded down.
func RootNatural(n []int64) ([]int64, int64) {
	if !IsNatural(n) {
		return nil, ErrInvalid
	}
	return rootLimbs(n), OK
}

// ValuationOf returns how often a number divides a natural.
func ValuationOf(n []int64, p int64) (int64, int64) {
	if !IsNatural(n) {
		return 0, ErrInvalid
	}
	if len(n) == 0 || p < 2 || p >= LimbBase {
		return 0, ErrRange
	}
	exponent, _ := takeFactors(n, p)
	return exponent, OK
}

// DigitsOf returns the digits to a base.
func DigitsOf(n []int64, base int64) ([]int64, int64) {
	if !IsNatural(n) {
		return nil, ErrInvalid
	}
	if base < 2 || base > LimbBase {
		return nil, ErrRange
	}
	var digits []int64
	for len(n) > 0 {
		quotient, digit := divideBySmall(n, base)
		digits = append(digits, digit)
		n = quotient
	}
	return digits, OK
}

// FromDigits returns the natural with digits to a base.
func FromDigits(digits []int64, base int64) ([]int64, int64) {
	if base < 2 || base > LimbBase || !areBelow(digits, base) {
		return nil, ErrRange
	}
	if len(digits) > MaxPower {
		return nil, ErrFull
	}
	var n []int64
	for _, digit := range slices.Backward(digits) {
		// The digit is the carry into the lowest limb, and so needs no addition of its own.
		n = multiplyBySmall(n, base, digit)
		if len(n) > MaxLimbs {
			return nil, ErrFull
		}
	}
	return n, OK
}

// The functions below work on limbs of any number, without checks, and return new lists.

func withinLimbs(n []int64) ([]int64, int64) {
	if len(n) > MaxLimbs {
		return nil, ErrFull
	}
	return n, OK
}

// trimZeros returns a list without the zeros at its end.
func trimZeros(n []int64) []int64 {
	for len(n) > 0 && n[len(n)-1] == 0 {
		n = n[:len(n)-1]
	}
	return n
}

func limbsOf(n int64) []int64 {
	var limbs []int64
	for ; n > 0; n /= LimbBase {
		limbs = append(limbs, n%LimbBase)
	}
	return limbs
}

// compareLimbs compares lists of digits that have no 0 at their end, where the last digit counts most.
func compareLimbs[D cmp.Ordered](a, b []D) int64 {
	if len(a) != len(b) {
		return int64(cmp.Compare(len(a), len(b)))
	}
	for i, digit := range slices.Backward(a) {
		if digit != b[i] {
			return int64(cmp.Compare(digit, b[i]))
		}
	}
	return 0
}

// addTimes adds a multiple of b, which may be negative, to the limbs of sum in place, and returns the carry out of them.
// It is the one loop over limbs with a carry: sums, differences, products and quotients all come to it.
func addTimes(sum, b []int64, times int64) int64 {
	var carry int64
	for i := range sum {
		if i >= len(b) && carry == 0 {
			break
		}
		value := sum[i] + carry
		if i < len(b) {
			value += times * b[i]
		}
		carry = value / LimbBase
		sum[i] = value % LimbBase
		if sum[i] < 0 {
			sum[i] += LimbBase
			carry--
		}
	}
	return carry
}

func addLimbs(a, b []int64) []int64 {
	sum := make([]int64, max(len(a), len(b))+1)
	copy(sum, a)
	addTimes(sum, b, 1)
	return trimZeros(sum)
}

// subtractLimbs subtracts a number that is at most a.
func subtractLimbs(a, b []int64) []int64 {
	difference := slices.Clone(a)
	addTimes(difference, b, -1)
	return trimZeros(difference)
}

func oneMore(n []int64) []int64 { return addLimbs(n, limbsOf(1)) }

// oneLess needs a number that is not 0.
func oneLess(n []int64) []int64 { return subtractLimbs(n, limbsOf(1)) }

func multiplyLimbs(a, b []int64) []int64 {
	product := make([]int64, len(a)+len(b))
	for i, limb := range a {
		addTimes(product[i:], b, limb)
	}
	return trimZeros(product)
}

// multiplyBySmall returns n times by plus carry, for numbers up to LimbBase.
func multiplyBySmall(n []int64, by, carry int64) []int64 {
	product := make([]int64, len(n), len(n)+1)
	for i, limb := range n {
		value := limb*by + carry
		product[i] = value % LimbBase
		carry = value / LimbBase
	}
	if carry > 0 {
		product = append(product, carry)
	}
	return product
}

// divideBySmall divides by a number from 1 to LimbBase.
func divideBySmall(n []int64, by int64) ([]int64, int64) {
	quotient := make([]int64, len(n))
	var rest int64
	for i, limb := range slices.Backward(n) {
		rest = rest*LimbBase + limb
		quotient[i] = rest / by
		rest %= by
	}
	return trimZeros(quotient), rest
}

// divideLimbs divides by a number that is not 0.
func divideLimbs(a, b []int64) ([]int64, []int64) {
	if len(b) == 1 {
		quotient, rest := divideBySmall(a, b[0])
		return quotient, limbsOf(rest)
	}
	if len(a) < len(b) {
		return nil, slices.Clone(a)
	}
	rest := append(slices.Clone(a), 0)
	quotient := make([]int64, len(a)-len(b)+1)
	for at := range slices.Backward(quotient) {
		quotient[at] = takeMultiple(rest[at:at+len(b)+1], b)
	}
	return trimZeros(quotient), trimZeros(rest)
}

// takeMultiple reduces part, which has one limb more than b and is less than b times LimbBase, to its remainder by b,
// and returns the quotient. It needs at least two limbs of b.
func takeMultiple(part, b []int64) int64 {
	top := len(b)
	highest := (part[top]*LimbBase+part[top-1])*LimbBase + part[top-2]
	// Two limbs of b, the highest one not 0, are enough for an estimate that is right or greater by 1.
	times := highest / (b[top-1]*LimbBase + b[top-2])
	if addTimes(part, b, -times) < 0 {
		addTimes(part, b, 1)
		times--
	}
	return times
}

func rootLimbs(n []int64) []int64 {
	if len(n) == 0 {
		return nil
	}
	// Newton's method: from above the root, the values decrease until the root is reached.
	root := aboveRoot(n)
	for {
		quotient, _ := divideLimbs(n, root)
		next, _ := divideBySmall(addLimbs(root, quotient), 2)
		if compareLimbs(next, root) >= 0 {
			return root
		}
		root = next
	}
}

// aboveRoot returns a number not less than the root of n, which is not 0, and near it, so that few steps lead to the root.
func aboveRoot(n []int64) []int64 {
	pairs := (len(n) - 1) / 2
	var top int64
	for _, limb := range slices.Backward(n[2*pairs:]) {
		top = top*LimbBase + limb
	}
	// Half as many bits, rounded up, make a power of 2 whose square is greater than top.
	half := (bits.Len64(uint64(top)) + 1) / 2
	return append(make([]int64, pairs), limbsOf(1<<half)...)
}

// takeFactors returns how often p divides a number that is not 0, and the number without these factors, which may be n itself.
func takeFactors(n []int64, p int64) (int64, []int64) {
	for count := int64(0); ; count++ {
		quotient, rest := divideBySmall(n, p)
		if rest != 0 {
			return count, n
		}
		n = quotient
	}
}
