package impl

import (
	"slices"
	"strconv"
	"strings"
)

// The error codes of the package.
const (
	OK           = 0
	ErrInvalid   = 1
	ErrRange     = 2
	ErrNotFound  = 3
	ErrExists    = 4
	ErrFull      = 5
	ErrState     = 6
	ErrOrder     = 7
	ErrSyntax    = 8
	ErrFormat    = 9
	ErrChecksum  = 10
	ErrTruncated = 11
)

// The limits of names, lists and of numbers in texts.
const (
	MaxName  = 10
	MaxList  = 64
	MaxValue = 1000000000000
)

// The limits of primes and of budgets.
const (
	MaxPrimes = 24
	MaxBudget = 20000
)

// CrcStart is the usual start of Crc16.
const CrcStart = 65535

const (
	maxDecimalDigits = 18
	crcMask          = 65535
	crcPolynomial    = 4129
	// greatestPrime is the prime with the number MaxPrimes - 1.
	greatestPrime = 89
)

// CodeName returns the name of an error code.
func CodeName(code int64) string {
	names := [...]string{
		OK: "ok", ErrInvalid: "invalid", ErrRange: "range", ErrNotFound: "not-found",
		ErrExists: "exists", ErrFull: "full", ErrState: "state", ErrOrder: "order",
		ErrSyntax: "syntax", ErrFormat: "format", ErrChecksum: "checksum", ErrTruncated: "truncated",
	}
	if code < 0 || code >= int64(len(names)) {
		return ""
	}
	return names[code]
}

// IsName reports whether s is a name.
func IsName(s string) bool {
	if len(s) < 1 || len(s) > MaxName {
		return false
	}
	for i, r := range s {
		if !isSmallLetter(r) && (i == 0 || !isDigit(r)) {
			return false
		}
	}
	return true
}

func isSmallLetter(r rune) bool { return 'a' <= r && r <= 'z' }

func isDigit(r rune) bool { return '0' <= r && r <= '9' }

// Decimal returns the decimal form of n.
func Decimal(n int64) string { return strconv.FormatInt(n, 10) }

// ReadDecimal returns the number with the decimal form s.
func ReadDecimal(s string) (int64, bool) {
	if len(strings.TrimPrefix(s, "-")) > maxDecimalDigits {
		return 0, false
	}
	n, err := strconv.ParseInt(s, 10, 64)
	// ParseInt also reads texts that no number has as its Decimal, such as +1, 01 and -0.
	if err != nil || Decimal(n) != s {
		return 0, false
	}
	return n, true
}

// SplitWords returns the parts of a line between blanks.
func SplitWords(s string) []string {
	// Not strings.Fields: the texts of this package tell blanks from other white space.
	return strings.FieldsFunc(s, func(r rune) bool { return r == ' ' })
}

// ListText returns the text of a list of numbers.
func ListText(list []int64) string {
	if !hasListText(list) {
		return ""
	}
	if len(list) == 0 {
		return "-"
	}
	texts := make([]string, len(list))
	for i, n := range list {
		texts[i] = Decimal(n)
	}
	return strings.Join(texts, ",")
}

func hasListText(list []int64) bool {
	return len(list) <= MaxList && !slices.ContainsFunc(list, func(n int64) bool {
		return n < -MaxValue || n > MaxValue
	})
}

// ReadList returns the list with the text s.
func ReadList(s string) ([]int64, bool) {
	if s == "-" {
		return nil, true
	}
	var list []int64
	for _, text := range strings.Split(s, ",") {
		n, ok := ReadDecimal(text)
		if !ok {
			return nil, false
		}
		list = append(list, n)
	}
	if !hasListText(list) {
		return nil, false
	}
	return list, true
}

// Crc16 returns the check value of s.
func Crc16(s string, start int64) int64 {
	if start < 0 || start > crcMask {
		return 0
	}
	crc := start
	for i := range len(s) {
		crc ^= int64(s[i]) * 256
		for range 8 {
			crc *= 2
			if crc > crcMask {
				crc = crc&crcMask ^ crcPolynomial
			}
		}
	}
	return crc
}

// CompareLists compares two lists lexicographically.
func CompareLists(a, b []int64) int64 { return int64(slices.Compare(a, b)) }

// SortList returns the numbers in ascending order.
func SortList(list []int64) []int64 {
	sorted := slices.Clone(list)
	slices.Sort(sorted)
	return sorted
}

// IsPrime reports whether n is a prime.
func IsPrime(n int64) bool {
	if n < 2 || n > MaxValue {
		return false
	}
	if n%2 == 0 || n%3 == 0 {
		return n <= 3
	}
	// Every prime greater than 3 stands next to a multiple of 6.
	for d := int64(5); d*d <= n; d += 6 {
		if n%d == 0 || n%(d+2) == 0 {
			return false
		}
	}
	return true
}

// PrimeAt returns the prime with a number.
func PrimeAt(k int64) (int64, int64) {
	if k < 0 || k >= MaxPrimes {
		return 0, ErrRange
	}
	crossedOut := map[int64]bool{}
	var found int64
	// This ends at greatestPrime at the latest, so that no greater multiples are needed.
	for n := int64(2); ; n++ {
		if crossedOut[n] {
			continue
		}
		if found == k {
			return n, OK
		}
		found++
		for multiple := n * n; multiple <= greatestPrime; multiple += n {
			crossedOut[multiple] = true
		}
	}
}

// PowerOf returns a power.
func PowerOf(base, exponent int64) (int64, int64) {
	if base < 0 || base > MaxValue || exponent < 0 || exponent > MaxList {
		return 0, ErrRange
	}
	power := int64(1)
	for range exponent {
		// The product itself could be too great for an int64.
		if base > 0 && power > MaxValue/base {
			return 0, ErrFull
		}
		power *= base
	}
	return power, OK
}

// ExponentOf returns how often a number can be divided by another one.
func ExponentOf(n, by int64) (int64, int64) {
	if n < 1 || n > MaxValue || by < 2 || by > MaxValue {
		return 0, ErrRange
	}
	var exponent int64
	for n%by == 0 {
		n /= by
		exponent++
	}
	return exponent, OK
}
