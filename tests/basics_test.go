package tests

import (
	"math"
	"math/big"
	"math/rand"
	"slices"
	"strings"
	"testing"

	"loop.example/g01079/impl"
)

func TestPromise2CodeName(t *testing.T) {
	names := []string{"ok", "invalid", "range", "not-found", "exists", "full", "state", "order", "syntax", "format", "checksum", "truncated"}
	codes := []int64{impl.OK, impl.ErrInvalid, impl.ErrRange, impl.ErrNotFound, impl.ErrExists, impl.ErrFull, impl.ErrState,
		impl.ErrOrder, impl.ErrSyntax, impl.ErrFormat, impl.ErrChecksum, impl.ErrTruncated}
	for i, name := range names {
		expect(t, show(codes[i], impl.CodeName(int64(i))), show(int64(i), name))
	}
	for _, code := range []int64{-1, 12, math.MinInt64, math.MaxInt64} {
		expect(t, show(impl.CodeName(code)), `""`)
	}
}

func TestPromise2IsName(t *testing.T) {
	for _, s := range []string{"a", "z", "a0", "z9", "star7", "abcdefghij", "a123456789"} {
		if !impl.IsName(s) {
			t.Errorf("%q is a name", s)
		}
	}
	for _, s := range []string{"", "abcdefghijk", "7a", "0", "A", "aB", "a-b", "a b", "a_b", "a ", " a", "`", "{", "a/", "a:",
		"\u00e9", "a\u00e9", "a\uff11", "a\xff", "a\x00", "a\n"} {
		if impl.IsName(s) {
			t.Errorf("%q is no name", s)
		}
	}
}

func TestPromise2Decimal(t *testing.T) {
	expect(t, show(impl.Decimal(0), impl.Decimal(-120), impl.Decimal(1000000)), `"0" "-120" "1000000"`)
	expect(t, show(impl.Decimal(math.MinInt64), impl.Decimal(math.MaxInt64)), `"-9223372036854775808" "9223372036854775807"`)
	const greatest = 999999999999999999
	r := rand.New(rand.NewSource(2))
	numbers := []int64{0, 1, -1, 9, 10, -10, greatest, -greatest}
	for range 500 {
		numbers = append(numbers, r.Int63n(greatest)-r.Int63n(greatest), r.Int63n(2000)-1000)
	}
	for _, n := range numbers {
		expect(t, show(impl.ReadDecimal(impl.Decimal(n))), show(n, true))
	}
	for _, n := range []int64{greatest + 1, -greatest - 1, math.MaxInt64, math.MinInt64} {
		expect(t, show(impl.ReadDecimal(impl.Decimal(n))), "0 false")
	}
	for _, s := range []string{"", "-", "--1", "-0", "00", "01", "-01", "+1", "+0", "1 ", " 1", "1a", "a", "1.0", "1e2", "0x1", "1_0", "1,2",
		"\uff11", "\x001", "1\n", "0000000000000000001", strings.Repeat("9", 100)} {
		expect(t, show(impl.ReadDecimal(s)), "0 false")
	}
}

func TestPromise2SplitWords(t *testing.T) {
	expect(t, show(impl.SplitWords(" a  bc ")), `["a" "bc"]`)
	expect(t, show(impl.SplitWords("a b c")), `["a" "b" "c"]`)
	expect(t, show(impl.SplitWords("abc")), `["abc"]`)
	expect(t, show(impl.SplitWords("")), `[]`)
	expect(t, show(impl.SplitWords("   ")), `[]`)
	expect(t, show(impl.SplitWords(" \xff\xfe \u00e9")), `["\xff\xfe" "é"]`)
	expect(t, show(impl.SplitWords("a\tb\u00a0c d")), `["a\tb\u00a0c" "d"]`)
}

func TestPromise2ListText(t *testing.T) {
	expect(t, show(impl.ListText([]int64{3, 0, -1}), impl.ListText([]int64{5}), impl.ListText(nil), impl.ListText([]int64{})), `"3,0,-1" "5" "-" "-"`)
	expect(t, show(impl.ListText([]int64{impl.MaxValue, -impl.MaxValue})), `"1000000000000,-1000000000000"`)
	for _, list := range [][]int64{{impl.MaxValue + 1}, {0, -impl.MaxValue - 1}, {math.MinInt64}, {math.MaxInt64}, repeat(0, 65)} {
		expect(t, show(impl.ListText(list)), `""`)
	}
}

func TestPromise2ReadList(t *testing.T) {
	r := rand.New(rand.NewSource(3))
	for length := range impl.MaxList + 1 {
		list := make([]int64, length)
		for i := range list {
			list[i] = r.Int63n(impl.MaxValue+1) - r.Int63n(impl.MaxValue+1)
		}
		expect(t, show(impl.ReadList(impl.ListText(list))), show(list, true))
	}
	expect(t, show(impl.ReadList("-")), "[] true")
	expect(t, show(impl.ReadList("1000000000000,-1000000000000")), "[1000000000000 -1000000000000] true")
	for _, s := range []string{"", ",", "1,", ",1", "1,,2", "1, 2", "1 2", "01", "-0", "1,-", "-,1", "--", "+1", "1000000000001",
		"-1000000000001", "5,999999999999999999", "[1]", "1;2", strings.TrimSuffix(strings.Repeat("0,", 65), ",")} {
		expect(t, show(impl.ReadList(s)), "[] false")
	}
}

// crcByDivision computes the remainder of a polynomial by long division over all bits of the text.
func crcByDivision(s string, start int64) int64 {
	register := start
	for i := range len(s) {
		for bit := 7; bit >= 0; bit-- {
			in := int64(s[i]>>bit) & 1
			out := register >> 15 & 1
			register = register << 1 & 0xffff
			if in != out {
				register ^= 0x1021
			}
		}
	}
	return register
}

func TestPromise2Crc16(t *testing.T) {
	expect(t, show(impl.Crc16("123456789", impl.CrcStart), impl.Crc16("123456789", 0), impl.Crc16("", 65535), impl.Crc16("", 0)), "10673 12739 65535 0")
	expect(t, show(impl.Crc16("a", -1), impl.Crc16("a", 65536), impl.Crc16("a", math.MinInt64), impl.Crc16("", math.MaxInt64)), "0 0 0 0")
	r := rand.New(rand.NewSource(4))
	for length := range 60 {
		text := make([]byte, length)
		r.Read(text)
		start := r.Int63n(65536)
		expect(t, show(impl.Crc16(string(text), start)), show(crcByDivision(string(text), start)))
	}
}

func TestPromise2CompareLists(t *testing.T) {
	ordered := [][]int64{nil, {math.MinInt64}, {-1, 5}, {0}, {0, 0}, {0, 0, -1}, {0, 1}, {1}, {1, 0}, {2}, {2, -9}, {math.MaxInt64}}
	slices.SortFunc(ordered, func(a, b []int64) int { return int(impl.CompareLists(a, b)) })
	expect(t, show(ordered), show([][]int64{nil, {math.MinInt64}, {-1, 5}, {0}, {0, 0}, {0, 0, -1}, {0, 1}, {1}, {1, 0}, {2}, {2, -9}, {math.MaxInt64}}))
	expectOrder(t, ordered, impl.CompareLists)
	expect(t, show(impl.CompareLists([]int64{}, nil)), "0")
}

func TestPromise2SortList(t *testing.T) {
	expect(t, show(impl.SortList([]int64{3, -1, 3, 0}), impl.SortList(nil), impl.SortList([]int64{5})), "[-1 0 3 3] [] [5]")
	expect(t, show(impl.SortList([]int64{math.MaxInt64, 0, math.MinInt64})), show([]int64{math.MinInt64, 0, math.MaxInt64}))
	long := make([]int64, 1000)
	for i := range long {
		long[i] = int64(i*7919%1000) / 2
	}
	sorted := impl.SortList(long)
	for i, n := range sorted {
		if n != int64(i/2) {
			t.Fatalf("the element %d of the sorted list is %d", i, n)
		}
	}
}

func TestPromise2IsPrime(t *testing.T) {
	for n := int64(-10); n < 3000; n++ {
		if got, want := impl.IsPrime(n), n > 1 && big.NewInt(n).ProbablyPrime(0); got != want {
			t.Errorf("IsPrime(%d): %v", n, got)
		}
	}
	for n := int64(impl.MaxValue - 300); n <= impl.MaxValue; n++ {
		if got, want := impl.IsPrime(n), big.NewInt(n).ProbablyPrime(0); got != want {
			t.Errorf("IsPrime(%d): %v", n, got)
		}
	}
	expect(t, show(impl.IsPrime(999999999989), impl.IsPrime(999983*999983), impl.IsPrime(999979*999983)), "true false false")
	// The first one is a prime, but beyond MaxValue.
	expect(t, show(impl.IsPrime(1000000000039), impl.IsPrime(math.MaxInt64), impl.IsPrime(math.MinInt64)), "false false false")
}

func TestPromise2PrimeAt(t *testing.T) {
	primes := []int64{2, 3, 5, 7, 11, 13, 17, 19, 23, 29, 31, 37, 41, 43, 47, 53, 59, 61, 67, 71, 73, 79, 83, 89}
	for k, p := range primes {
		expect(t, show(impl.PrimeAt(int64(k))), show(p, impl.OK))
	}
	for _, k := range []int64{-1, impl.MaxPrimes, math.MinInt64, math.MaxInt64} {
		expect(t, show(impl.PrimeAt(k)), "0 2")
	}
}

func TestPromise2PowerOf(t *testing.T) {
	expect(t, show(impl.PowerOf(2, 39)), "549755813888 0")
	expect(t, show(impl.PowerOf(2, 40)), "0 5")
	expect(t, show(impl.PowerOf(0, 0)), "1 0")
	expect(t, show(impl.PowerOf(0, 64)), "0 0")
	expect(t, show(impl.PowerOf(1, 64)), "1 0")
	expect(t, show(impl.PowerOf(10, 12)), "1000000000000 0")
	expect(t, show(impl.PowerOf(10, 13)), "0 5")
	expect(t, show(impl.PowerOf(1000000, 2)), "1000000000000 0")
	expect(t, show(impl.PowerOf(1000001, 2)), "0 5")
	expect(t, show(impl.PowerOf(impl.MaxValue, 1)), "1000000000000 0")
	expect(t, show(impl.PowerOf(impl.MaxValue, 64)), "0 5")
	for _, args := range [][2]int64{{-1, 2}, {2, -1}, {2, 65}, {1, 65}, {impl.MaxValue + 1, 0}, {math.MaxInt64, 1}, {1, math.MaxInt64}, {0, math.MinInt64}} {
		expect(t, show(impl.PowerOf(args[0], args[1])), "0 2")
	}
}

func TestPromise2ExponentOf(t *testing.T) {
	expect(t, show(impl.ExponentOf(24, 2)), "3 0")
	expect(t, show(impl.ExponentOf(7, 3)), "0 0")
	expect(t, show(impl.ExponentOf(1, impl.MaxValue)), "0 0")
	expect(t, show(impl.ExponentOf(impl.MaxValue, impl.MaxValue)), "1 0")
	expect(t, show(impl.ExponentOf(36, 6)), "2 0")
	for _, args := range [][2]int64{{0, 2}, {-8, 2}, {impl.MaxValue + 1, 2}, {8, 1}, {8, 0}, {8, -2}, {8, impl.MaxValue + 1}, {math.MinInt64, -1}} {
		expect(t, show(impl.ExponentOf(args[0], args[1])), "0 2")
	}
	for base := int64(2); base < 100; base++ {
		for exponent := int64(0); exponent <= impl.MaxList; exponent++ {
			power, code := impl.PowerOf(base, exponent)
			exact := new(big.Int).Exp(big.NewInt(base), big.NewInt(exponent), nil)
			if exact.Cmp(big.NewInt(impl.MaxValue)) > 0 {
				expect(t, show(power, code), "0 5")
				break
			}
			expect(t, show(power, code), show(exact, impl.OK))
			expect(t, show(impl.ExponentOf(power, base)), show(exponent, impl.OK))
			if factor := base + 1; power <= impl.MaxValue/factor {
				expect(t, show(impl.ExponentOf(power*factor, base)), show(exponent, impl.OK))
			}
		}
	}
}
