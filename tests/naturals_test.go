package tests

import (
	"math"
	"math/big"
	"math/rand"
	"slices"
	"strings"
	"testing"

	"loop.example/g01079/impl"
)

// bigOf returns the value of a natural, computed from its limbs by other means than those of the package.
func bigOf(n []int64) *big.Int {
	value := new(big.Int)
	for i := len(n) - 1; i >= 0; i-- {
		value.Mul(value, big.NewInt(impl.LimbBase)).Add(value, big.NewInt(n[i]))
	}
	return value
}

// limbsOf returns the natural with a value, and nil and ErrFull if it has too many limbs.
func limbsOf(value *big.Int) ([]int64, int64) {
	var n []int64
	rest := new(big.Int)
	for left := new(big.Int).Set(value); left.Sign() > 0; {
		left.QuoRem(left, big.NewInt(impl.LimbBase), rest)
		n = append(n, rest.Int64())
	}
	if len(n) > impl.MaxLimbs {
		return nil, impl.ErrFull
	}
	return n, impl.OK
}

// someNaturals returns naturals of all lengths, with many limbs at both ends of their range, where carries go far.
func someNaturals(seed int64, many int) [][]int64 {
	r := rand.New(rand.NewSource(seed))
	naturals := [][]int64{nil, {1}, {2}, {999999}, {0, 1}, {999999, 999999}, repeat(999999, 20), repeat(999999, 40), append(repeat(0, 39), 1)}
	for range many {
		n := make([]int64, r.Intn(impl.MaxLimbs+1))
		for i := range n {
			n[i] = []int64{0, 0, 1, 499999, 500000, 999998, 999999, r.Int63n(impl.LimbBase)}[r.Intn(8)]
		}
		if len(n) > 0 && n[len(n)-1] == 0 {
			n[len(n)-1] = 1 + r.Int63n(impl.LimbBase-1)
		}
		naturals = append(naturals, n)
	}
	return naturals
}

func TestPromise3IsNatural(t *testing.T) {
	for _, n := range [][]int64{nil, {}, {1}, {999999}, {0, 1}, repeat(999999, 40), append(repeat(0, 39), 1)} {
		if !impl.IsNatural(n) {
			t.Errorf("%v is a natural", n)
		}
	}
	for _, n := range notNaturals {
		if impl.IsNatural(n) {
			t.Errorf("%v is no natural", n)
		}
	}
}

var notNaturals = [][]int64{{0}, {1, 0}, {0, 0}, {-1}, {-1, 1}, {1000000}, {1000000, 1}, {1, -1}, {1, 1000000}, {math.MinInt64}, {math.MaxInt64},
	repeat(1, 41), repeat(999999, 41), append(repeat(1, 39), 0)}

func TestPromise3NoNatural(t *testing.T) {
	good := []int64{6}
	for _, bad := range notNaturals {
		expect(t, show(impl.SmallOf(bad)), "0 1")
		expect(t, show(impl.NaturalText(bad)), `""`)
		expect(t, show(impl.PowerNatural(bad, 1)), "[] 1")
		expect(t, show(impl.RootNatural(bad)), "[] 1")
		expect(t, show(impl.ValuationOf(bad, 2)), "0 1")
		expect(t, show(impl.DigitsOf(bad, 2)), "[] 1")
		for _, pair := range [][2][]int64{{bad, good}, {good, bad}, {bad, nil}, {nil, bad}, {bad, bad}} {
			a, b := pair[0], pair[1]
			expect(t, show(impl.CompareNaturals(a, b)), "0 1")
			expect(t, show(impl.AddNaturals(a, b)), "[] 1")
			expect(t, show(impl.SubtractNaturals(a, b)), "[] 1")
			expect(t, show(impl.MultiplyNaturals(a, b)), "[] 1")
			expect(t, show(impl.DivideNaturals(a, b)), "[] [] 1")
			expect(t, show(impl.GcdNaturals(a, b)), "[] 1")
		}
	}
}

func TestPromise3Values(t *testing.T) {
	for _, n := range []int64{0, 1, 999999, 1000000, 1000001, 123456789012, 999999999999, impl.MaxValue} {
		natural, code := impl.NaturalOf(n)
		want, _ := limbsOf(big.NewInt(n))
		expect(t, show(natural, code), show(want, impl.OK))
		expect(t, show(impl.SmallOf(natural)), show(n, impl.OK))
	}
	expect(t, show(impl.NaturalOf(1000000)), "[0 1] 0")
	for _, n := range []int64{-1, impl.MaxValue + 1, math.MinInt64, math.MaxInt64} {
		expect(t, show(impl.NaturalOf(n)), "[] 2")
	}
	// The last but one is the power 64 of 2, which is 0 where int64 wraps around.
	for _, n := range [][]int64{{1, 0, 1}, {0, 0, 2}, {0, 1, 1}, {999999, 999999, 999999}, {0, 0, 0, 1}, {551616, 73709, 446744, 18}, repeat(999999, 40)} {
		expect(t, show(impl.SmallOf(n)), "0 5")
	}
}

func TestPromise3Texts(t *testing.T) {
	expect(t, show(impl.NaturalText(nil), impl.NaturalText([]int64{0, 1}), impl.NaturalText([]int64{7, 0, 12})), `"0" "1000000" "12000000000007"`)
	for _, n := range someNaturals(5, 300) {
		text := impl.NaturalText(n)
		expect(t, text, bigOf(n).String())
		expect(t, show(impl.ReadNatural(text)), show(n, true))
	}
	expect(t, show(impl.ReadNatural(strings.Repeat("9", 240))), show(repeat(999999, 40), true))
	for _, s := range []string{"", "00", "01", "0000001", "-1", "-0", "+1", " 1", "1 ", "1a", "a", "1.0", "1,000", "1_000", "0x1", "-",
		"\uff11", "1\uff11", "1\x00", "\xff", "1/2", "12:", strings.Repeat("9", 241), "1" + strings.Repeat("0", 240), "0" + strings.Repeat("9", 239)} {
		expect(t, show(impl.ReadNatural(s)), "[] false")
	}
}

func TestPromise3Sums(t *testing.T) {
	naturals := someNaturals(6, 120)
	for _, a := range naturals {
		for _, b := range naturals {
			x, y := bigOf(a), bigOf(b)
			expect(t, show(impl.CompareNaturals(a, b)), show(x.Cmp(y), impl.OK))
			sum, full := limbsOf(new(big.Int).Add(x, y))
			expect(t, show(impl.AddNaturals(a, b)), show(sum, full))
			if full == impl.OK {
				expect(t, show(impl.SubtractNaturals(sum, b)), show(a, impl.OK))
			}
			if x.Cmp(y) < 0 {
				expect(t, show(impl.SubtractNaturals(a, b)), "[] 2")
				continue
			}
			difference, _ := limbsOf(new(big.Int).Sub(x, y))
			expect(t, show(impl.SubtractNaturals(a, b)), show(difference, impl.OK))
		}
	}
}

func TestPromise3Products(t *testing.T) {
	naturals := someNaturals(7, 120)
	for _, a := range naturals {
		for _, b := range naturals {
			product, full := limbsOf(new(big.Int).Mul(bigOf(a), bigOf(b)))
			expect(t, show(impl.MultiplyNaturals(a, b)), show(product, full))
			if full == impl.OK && len(b) > 0 {
				expect(t, show(impl.DivideNaturals(product, b)), show(a, []int64{}, impl.OK))
			}
			if len(b) == 0 {
				expect(t, show(impl.DivideNaturals(a, b)), "[] [] 2")
				continue
			}
			q, r := new(big.Int).QuoRem(bigOf(a), bigOf(b), new(big.Int))
			quotient, _ := limbsOf(q)
			rest, _ := limbsOf(r)
			expect(t, show(impl.DivideNaturals(a, b)), show(quotient, rest, impl.OK))
		}
	}
}

// The first estimate of a limb of a quotient is too great for these.
func TestPromise3QuotientsNearTheEstimate(t *testing.T) {
	for _, top := range []int64{1, 2, 499999, 500000, 999999} {
		for _, low := range []int64{0, 1, 999999} {
			b := []int64{999999, 999999, low, top}
			for _, quotient := range [][]int64{{1}, {999999}, {0, 1}, {999999, 999999}, {1, 0, 999999}} {
				product, _ := impl.MultiplyNaturals(quotient, b)
				expect(t, show(impl.DivideNaturals(product, b)), show(quotient, []int64{}, impl.OK))
				less, _ := impl.SubtractNaturals(product, []int64{1})
				lesser, _ := impl.SubtractNaturals(quotient, []int64{1})
				rest, _ := impl.SubtractNaturals(b, []int64{1})
				expect(t, show(impl.DivideNaturals(less, b)), show(lesser, rest, impl.OK))
			}
		}
	}
}

func TestPromise3LimbLimits(t *testing.T) {
	great, one := repeat(999999, 40), []int64{1}
	expect(t, show(impl.AddNaturals(great, one)), "[] 5")
	expect(t, show(impl.AddNaturals(great, nil)), show(great, impl.OK))
	almost := append([]int64{999998}, repeat(999999, 39)...)
	expect(t, show(impl.AddNaturals(almost, one)), show(great, impl.OK))
	half, beyond := append(repeat(0, 19), 1), append(repeat(0, 20), 1)
	expect(t, show(impl.MultiplyNaturals(half, beyond)), show(append(repeat(0, 39), 1), impl.OK))
	expect(t, show(impl.MultiplyNaturals(beyond, beyond)), "[] 5")
	expect(t, show(impl.MultiplyNaturals(great, one)), show(great, impl.OK))
	expect(t, show(impl.MultiplyNaturals(great, []int64{2})), "[] 5")
	expect(t, show(impl.MultiplyNaturals(great, nil)), "[] 0")
	expect(t, show(impl.PowerNatural([]int64{0, 1}, 39)), show(append(repeat(0, 39), 1), impl.OK))
	expect(t, show(impl.PowerNatural([]int64{0, 1}, 40)), "[] 5")
	expect(t, show(impl.FromDigits(repeat(999999, 40), impl.LimbBase)), show(great, impl.OK))
	expect(t, show(impl.FromDigits(append(repeat(0, 40), 1), impl.LimbBase)), "[] 5")
}

func TestPromise3Powers(t *testing.T) {
	for _, base := range [][]int64{nil, {1}, {2}, {3}, {10}, {999999}, {0, 1}, {7, 7}, repeat(999999, 20), repeat(999999, 40)} {
		for exponent := int64(0); exponent <= impl.MaxPower; exponent++ {
			exact := new(big.Int).Exp(bigOf(base), big.NewInt(exponent), nil)
			want, full := limbsOf(exact)
			expect(t, show(impl.PowerNatural(base, exponent)), show(want, full))
			if full != impl.OK {
				expect(t, show(impl.PowerNatural(base, impl.MaxPower)), "[] 5")
				break
			}
		}
		for _, exponent := range []int64{-1, impl.MaxPower + 1, math.MinInt64, math.MaxInt64} {
			expect(t, show(impl.PowerNatural(base, exponent)), "[] 2")
		}
	}
}

func TestPromise3Gcd(t *testing.T) {
	expect(t, show(impl.GcdNaturals([]int64{12}, []int64{18})), "[6] 0")
	expect(t, show(impl.GcdNaturals(nil, []int64{5})), "[5] 0")
	expect(t, show(impl.GcdNaturals([]int64{5}, nil)), "[5] 0")
	expect(t, show(impl.GcdNaturals(nil, nil)), "[] 0")
	naturals := someNaturals(8, 40)
	for _, a := range naturals {
		for _, b := range naturals {
			want, _ := limbsOf(new(big.Int).GCD(nil, nil, bigOf(a), bigOf(b)))
			expect(t, show(impl.GcdNaturals(a, b)), show(want, impl.OK))
		}
	}
	// Neighbours in Fibonacci's sequence need the most divisions of all.
	a, b := []int64{1}, []int64{1}
	for {
		sum, code := impl.AddNaturals(a, b)
		if code != impl.OK {
			break
		}
		a, b = b, sum
	}
	expect(t, show(impl.GcdNaturals(a, b)), "[1] 0")
}

func TestPromise3Roots(t *testing.T) {
	expect(t, show(impl.RootNatural([]int64{99})), "[9] 0")
	expect(t, show(impl.RootNatural(nil)), "[] 0")
	for n := int64(0); n < 3000; n++ {
		natural, _ := impl.NaturalOf(n)
		root, _ := impl.NaturalOf(int64(math.Sqrt(float64(n))))
		expect(t, show(impl.RootNatural(natural)), show(root, impl.OK))
	}
	for _, root := range someNaturals(9, 200) {
		square, code := impl.MultiplyNaturals(root, root)
		if code != impl.OK || len(root) == 0 {
			continue
		}
		expect(t, show(impl.RootNatural(square)), show(root, impl.OK))
		below, _ := impl.SubtractNaturals(square, []int64{1})
		lesser, _ := impl.SubtractNaturals(root, []int64{1})
		expect(t, show(impl.RootNatural(below)), show(lesser, impl.OK))
	}
	for _, n := range someNaturals(10, 300) {
		want, _ := limbsOf(new(big.Int).Sqrt(bigOf(n)))
		expect(t, show(impl.RootNatural(n)), show(want, impl.OK))
	}
}

func TestPromise3Valuations(t *testing.T) {
	expect(t, show(impl.ValuationOf([]int64{48}, 2)), "4 0")
	expect(t, show(impl.ValuationOf([]int64{1}, 2)), "0 0")
	expect(t, show(impl.ValuationOf(append(repeat(0, 39), 1), 10)), "234 0")
	expect(t, show(impl.ValuationOf([]int64{1, 999998}, 999999)), "2 0")
	expect(t, show(impl.ValuationOf(nil, 2)), "0 2")
	for _, p := range []int64{1, 0, -2, impl.LimbBase, impl.LimbBase + 1, math.MinInt64, math.MaxInt64} {
		expect(t, show(impl.ValuationOf([]int64{48}, p)), "0 2")
	}
	for _, p := range []int64{2, 3, 6, 10, 997, 999999} {
		n := []int64{p + 1}
		if p == 999999 {
			n = []int64{0, 1}
		}
		for exponent := int64(0); ; exponent++ {
			expect(t, show(impl.ValuationOf(n, p)), show(exponent, impl.OK))
			greater, code := impl.MultiplyNaturals(n, []int64{p})
			if code != impl.OK {
				break
			}
			n = greater
		}
	}
}

func TestPromise3Digits(t *testing.T) {
	expect(t, show(impl.DigitsOf([]int64{10}, 2)), "[0 1 0 1] 0")
	expect(t, show(impl.DigitsOf(nil, 7)), "[] 0")
	expect(t, show(impl.FromDigits([]int64{0, 1, 0, 1, 0, 0}, 2)), "[10] 0")
	expect(t, show(impl.FromDigits(nil, 2)), "[] 0")
	for _, base := range []int64{2, 3, 10, 16, 36, 1000, 999999, impl.LimbBase} {
		for _, n := range someNaturals(base, 40) {
			digits, code := impl.DigitsOf(n, base)
			if code != impl.OK || len(digits) > 0 && digits[len(digits)-1] == 0 {
				t.Errorf("DigitsOf(%v, %d): %v, %d", n, base, digits, code)
			}
			value := new(big.Int)
			for _, d := range slices.Backward(digits) {
				if d < 0 || d >= base {
					t.Errorf("%d is no digit to the base %d", d, base)
				}
				value.Mul(value, big.NewInt(base)).Add(value, big.NewInt(d))
			}
			expect(t, value.String(), bigOf(n).String())
			if len(digits) <= impl.MaxPower {
				expect(t, show(impl.FromDigits(digits, base)), show(n, impl.OK))
			}
		}
	}
	for _, base := range []int64{1, 0, -2, impl.LimbBase + 1, math.MinInt64, math.MaxInt64} {
		expect(t, show(impl.DigitsOf(nil, base)), "[] 2")
		expect(t, show(impl.FromDigits(nil, base)), "[] 2")
	}
	for _, digits := range [][]int64{{2}, {0, 2, 0}, {-1}, {1, -1}, {math.MaxInt64}, {math.MinInt64}} {
		expect(t, show(impl.FromDigits(digits, 2)), "[] 2")
	}
}

func TestPromise3DigitLimits(t *testing.T) {
	expect(t, show(impl.FromDigits(repeat(0, impl.MaxPower), 2)), "[] 0")
	expect(t, show(impl.FromDigits(repeat(0, impl.MaxPower+1), 2)), "[] 5")
	one := append([]int64{1}, repeat(0, impl.MaxPower-1)...)
	expect(t, show(impl.FromDigits(one, impl.LimbBase)), "[1] 0")
	// The power 797 of 2 is the greatest one with at most 240 decimal digits.
	for exponent, want := range map[int]int64{797: impl.OK, 798: impl.ErrFull, 799: impl.ErrFull} {
		_, code := impl.FromDigits(append(repeat(0, exponent), 1), 2)
		expect(t, show(code), show(want))
	}
}
