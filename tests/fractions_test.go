package tests

import (
	"fmt"
	"math"
	"math/big"
	"math/rand"
	"slices"
	"strings"
	"testing"

	"loop.example/g01079/impl"
)

const (
	// mostFactor is the greatest number in a fraction, and greatestFactorPrime the greatest prime up to it.
	mostFactor          = 999999
	greatestFactorPrime = 999983
)

// The texts of the known programs.
var knownTexts = []string{
	"3/2", "455/33 11/13 1/11 3/7 11/2 1/3", "17/91 78/85 19/51 23/38 29/33 77/29 95/23 77/19 1/17 11/13 13/11 15/14 15/2 55/1",
}

func fraction(up, down int64) impl.Fraction { return impl.Fraction{Up: up, Down: down} }

func fractionsOf(t *testing.T, s string) []impl.Fraction {
	t.Helper()
	return mustRead(t, impl.ReadFractions, s)
}

// badFractions returns lists that are no programs of fractions, each for another reason.
func badFractions() [][]impl.Fraction {
	all := [][]impl.Fraction{nil, {}, slices.Repeat([]impl.Fraction{fraction(1, 2)}, 101), slices.Repeat([]impl.Fraction{fraction(1, 2)}, 1000)}
	for _, bad := range []int64{0, -1, mostFactor + 1, -mostFactor, math.MinInt64, math.MaxInt64} {
		for _, f := range []impl.Fraction{fraction(bad, 1), fraction(1, bad), fraction(bad, bad)} {
			all = append(all, []impl.Fraction{f}, []impl.Fraction{fraction(3, 2), f}, []impl.Fraction{f, fraction(3, 2)}, append(slices.Repeat([]impl.Fraction{fraction(2, 1)}, 99), f))
		}
	}
	return all
}

// badNaturals are lists that are no naturals other than 0.
func badNaturals() [][]int64 {
	return [][]int64{
		nil, {}, {0}, {0, 0}, {1, 0}, {2, 3, 0}, {-1}, {-6}, {impl.LimbBase}, {0, impl.LimbBase}, {-1, 1}, {math.MinInt64}, {math.MaxInt64}, repeat(1, 41), repeat(999999, 41), repeat(0, 40), repeat(1, 1000),
	}
}

func sampleFractions() [][]impl.Fraction {
	all := badFractions()[:16]
	for _, s := range append([]string{"1/1", "2/1", "4/2 6/4", "1/2", "1/999999", "999999/1", "999999/999999", "999983/2 2/999983"}, knownTexts...) {
		list, _ := impl.ReadFractions(s)
		all = append(all, list)
	}
	return append(all, slices.Repeat([]impl.Fraction{fraction(mostFactor, 7)}, 100))
}

// fewFractions returns enough of them where a function has many parameters.
func fewFractions() [][]impl.Fraction {
	return [][]impl.Fraction{nil, {}, {fraction(2, 1)}, {fraction(1, 2)}, {fraction(0, 1)}, {fraction(1, 0)}, {fraction(15, 14), fraction(4, 2)}, slices.Repeat([]impl.Fraction{fraction(1, 2)}, 101)}
}

// fractionModel runs a program of fractions in the plainest way. The last index is that of the fraction of the last step.
type fractionModel struct {
	list  []impl.Fraction
	value *big.Int
	last  int
}

func newFractionModel(list []impl.Fraction, n []int64) *fractionModel {
	return &fractionModel{list: list, value: bigOf(n)}
}

func (m *fractionModel) config() []int64 {
	n, _ := limbsOf(m.value)
	return n
}

// next returns the index of the first fraction whose product is a natural, and the product; nil if there is none.
func (m *fractionModel) next() (int, *big.Int) {
	for i, f := range m.list {
		product := new(big.Int).Mul(m.value, big.NewInt(f.Up))
		quotient, rest := new(big.Int).QuoRem(product, big.NewInt(f.Down), new(big.Int))
		if rest.Sign() == 0 {
			return i, quotient
		}
	}
	return 0, nil
}

func (m *fractionModel) halts() bool {
	_, product := m.next()
	return product == nil
}

func (m *fractionModel) step() int64 {
	index, product := m.next()
	if product == nil {
		return impl.ErrState
	}
	m.last, m.value = index, product
	_, code := limbsOf(product)
	return code
}

// productOf returns the natural that is a product of powers, whose bases and exponents take turns.
func productOf(t *testing.T, powers ...int64) []int64 {
	t.Helper()
	product := big.NewInt(1)
	for i := 0; i < len(powers); i += 2 {
		product.Mul(product, new(big.Int).Exp(big.NewInt(powers[i]), big.NewInt(powers[i+1]), nil))
	}
	return naturalAt(t, product)
}

// someFractions returns a program whose fractions often divide each other's products; many of them are not in lowest terms.
func someFractions(random *rand.Rand) []impl.Fraction {
	factors := []int64{1, 1, 2, 3, 4, 5, 6, 7, 10, 12, 14, 15, 30, 42, 49}
	var list []impl.Fraction
	for range 1 + random.Intn(6) {
		list = append(list, fraction(factors[random.Intn(len(factors))], factors[random.Intn(len(factors))]))
	}
	return list
}

// someProduct returns a natural with small prime factors.
func someProduct(t *testing.T, random *rand.Rand) []int64 {
	t.Helper()
	return productOf(t, 2, random.Int63n(6), 3, random.Int63n(6), 5, random.Int63n(3), 7, random.Int63n(3))
}

func forSomeFractions(t *testing.T, seed int64, many int, check func(random *rand.Rand, list []impl.Fraction, n []int64)) {
	t.Helper()
	random := rand.New(rand.NewSource(seed))
	for range many {
		list := someFractions(random)
		check(random, list, someProduct(t, random))
	}
}

func TestPromise9FractionExamples(t *testing.T) {
	times, _ := impl.KnownFractions(1)
	for _, n := range [][]int64{{72}, productOf(t, 2, 3, 3, 2)} {
		end, _, halts, code := impl.RunFractions(times, n, impl.MaxBudget)
		expect(t, show(end, halts, code), show([]int64{15625}, true, impl.OK))
	}
	primes, _ := impl.KnownFractions(2)
	expect(t, show(impl.PowersSeen(primes, []int64{2}, 2, 19)), "[1 2] 0")
	expect(t, show(impl.PowersSeen(primes, []int64{2}, 2, 18)), "[1] 0")
	expect(t, show(impl.RunFractions(primes, []int64{2}, 19)), "[4] 19 false 0")
}

func TestPromise9ValidFractions(t *testing.T) {
	for i, list := range badFractions() {
		if impl.ValidFractions(list) {
			t.Errorf("the list %d is valid: %v", i, list)
		}
	}
	for many := range 103 {
		list := slices.Repeat([]impl.Fraction{fraction(mostFactor, 1)}, many)
		expect(t, show(many, impl.ValidFractions(list)), show(many, many >= 1 && many <= 100))
	}
	for _, n := range []int64{1, 2, mostFactor - 1, mostFactor} {
		expect(t, show(impl.ValidFractions([]impl.Fraction{fraction(n, 1)}), impl.ValidFractions([]impl.Fraction{fraction(1, n), fraction(n, n)})), "true true")
	}
}

func TestPromise9FractionTexts(t *testing.T) {
	random := rand.New(rand.NewSource(900))
	for range 300 {
		var list []impl.Fraction
		var texts []string
		for range 1 + random.Intn(100) {
			f := fraction(1+random.Int63n(mostFactor), 1+random.Int63n(30))
			list = append(list, f)
			texts = append(texts, fmt.Sprintf("%d/%d", f.Up, f.Down))
		}
		text := impl.FractionsText(list)
		expect(t, text, strings.Join(texts, " "))
		back, ok := impl.ReadFractions(text)
		expect(t, show(back, ok), show(list, true))
	}
	for _, bad := range badFractions() {
		expect(t, show(impl.FractionsText(bad)), `""`)
	}
	for _, s := range append([]string{"1/1", "2/4", "999999/999999", "1/2 1/2", "10/100 1/999999 999999/1"}, knownTexts...) {
		list, ok := impl.ReadFractions(s)
		expect(t, show(impl.FractionsText(list), ok), show(s, true))
	}
	expect(t, show(fractionsOf(t, "455/33 11/13")), show([]impl.Fraction{{Up: 455, Down: 33}, {Up: 11, Down: 13}}))
	for many := 98; many <= 102; many++ {
		list, ok := impl.ReadFractions(strings.TrimSuffix(strings.Repeat("999999/7 ", many), " "))
		expect(t, show(many, len(list), ok), show(many, many*btoi(many <= 100), many <= 100))
	}
}

func TestPromise9OtherFractionTexts(t *testing.T) {
	bad := []string{
		"", " ", "/", "//", "-", ".", "1", "1/", "/1", "1/1/1", "1//1", "1/1/", "/1/1", "1/1 ", " 1/1", "1/1  1/1", "1/1\n", "1/1\t1/1", "1/1,1/1", "1/1;1/1", "1/1\n1/1", "1/1 1", "1/1 /1", "1 /1", "1/ 1", "1 1", "1:1", "1\\1", "1/1.",
		"0/1", "1/0", "0/0", "-1/1", "1/-1", "-1/-1", "-0/1", "1/-0", "01/1", "1/01", "00/1", "1/00", "+1/1", "1/+1", "1000000/1", "1/1000000", "1/1 1000000/1", "1/1000000 1/1", "a/1", "1/a", "0x1/1", "1e3/1", "1/1_0", "1.0/1",
		"18446744073709551617/1", "1/18446744073709551617", "4294967297/1", "99999999999999999999/1", "\uff11/1", "1/\uff11", "1\uff0f1", "1/1\x00", "\x00", "\xff/1", "1/\xff", "1/1\u00a01/1", "3/2 x", "3/2 3/2 3/2 3",
	}
	for _, s := range bad {
		list, ok := impl.ReadFractions(s)
		expect(t, show(s, list, ok), show(s, []impl.Fraction{}, false))
	}
	for _, s := range []string{strings.Repeat(" ", 100000), strings.Repeat("/", 100000), strings.Repeat("1/1 ", 50000), strings.Repeat("1", 100000) + "/1", "1/" + strings.Repeat("0", 100000)} {
		list, ok := impl.ReadFractions(s)
		expect(t, show(len(list), ok), "0 false")
	}
}

func TestPromise9ReducedFractions(t *testing.T) {
	for from, to := range map[string]string{
		"4/6": "2/3", "1/1": "1/1", "7/7": "1/1", "3/2": "3/2", "999999/999999": "1/1", "999998/999999": "999998/999999", "999999/3 3/999999": "333333/1 1/333333", "500000/1000": "500/1", "2/999998": "1/499999", "6/4 4/6 6/4": "3/2 2/3 3/2",
		"524288/999424": "32/61", "832040/514229": "832040/514229", knownTexts[1]: knownTexts[1], knownTexts[2]: knownTexts[2],
	} {
		reduced, code := impl.ReduceFractions(fractionsOf(t, from))
		expect(t, show(impl.FractionsText(reduced), code), show(to, impl.OK))
	}
	random := rand.New(rand.NewSource(901))
	for range 300 {
		var list, want []impl.Fraction
		for range 1 + random.Intn(20) {
			f := fraction(1+random.Int63n(1000), 1+random.Int63n(1000))
			common := 1 + random.Int63n(900)
			list = append(list, fraction(f.Up*common, f.Down*common))
			least := big.NewRat(f.Up, f.Down)
			want = append(want, fraction(least.Num().Int64(), least.Denom().Int64()))
		}
		expect(t, show(impl.ReduceFractions(list)), show(want, impl.OK))
		expect(t, show(impl.ReduceFractions(want)), show(want, impl.OK))
	}
	for _, bad := range badFractions() {
		expect(t, show(impl.ReduceFractions(bad)), "[] 1")
	}
}

func primesTo(limit int64) []int64 {
	var primes []int64
	for n := int64(2); n <= limit; n++ {
		if big.NewInt(n).ProbablyPrime(0) {
			primes = append(primes, n)
		}
	}
	return primes
}

func TestPromise9PrimesOfFractions(t *testing.T) {
	for s, want := range map[string]string{
		"1/1": "[] 0", "3/2": "[2 3] 0", "2/3": "[2 3] 0", "4/8": "[2] 0", "6/35": "[2 3 5 7] 0", "999999/1": "[3 7 11 13 37] 0", "1/999999": "[3 7 11 13 37] 0", "999983/999983": "[999983] 0", "994009/1": "[997] 0", "1/524288": "[2] 0",
		"998001/1": "[3 37] 0", "999997/1": "[757 1321] 0", "510510/19": "[2 3 5 7 11 13 17 19] 0", "999979/999983 2/999961": "[2 999961 999979 999983] 0", "25/1 9/1": "[3 5] 0", "1/7 5/1 1/3 2/1": "[2 3 5 7] 0", "7/1 1/1 14/49": "[2 7] 0",
		knownTexts[1]: "[2 3 5 7 11 13] 0", knownTexts[2]: "[2 3 5 7 11 13 17 19 23 29] 0",
	} {
		expect(t, show(s)+show(impl.FractionPrimes(fractionsOf(t, s))), show(s)+want)
	}
	random := rand.New(rand.NewSource(902))
	known := primesTo(3000)
	for range 200 {
		var list []impl.Fraction
		for range 1 + random.Intn(4) {
			list = append(list, fraction(1+random.Int63n(3000), 1+random.Int63n(3000)))
		}
		var want []int64
		for _, p := range known {
			if slices.ContainsFunc(list, func(f impl.Fraction) bool { return f.Up%p == 0 || f.Down%p == 0 }) {
				want = append(want, p)
			}
		}
		expect(t, show(impl.FractionPrimes(list)), show(want, impl.OK))
	}
	for _, bad := range badFractions() {
		expect(t, show(impl.FractionPrimes(bad)), "[] 1")
	}
	var many []impl.Fraction
	for k := range int64(100) {
		many = append(many, fraction(mostFactor-2*k, mostFactor-1-2*k))
	}
	primes, code := impl.FractionPrimes(many)
	expect(t, show(code, slices.IsSorted(primes), len(slices.Compact(slices.Clone(primes))) == len(primes)), "0 true true")
}

// stepOf is a step without its index.
func stepOf(list []impl.Fraction, n []int64) ([]int64, int64) {
	product, _, code := impl.StepFractions(list, n)
	return product, code
}

// traceOfFractions makes a trace with single runs, since there is no function for it.
func traceOfFractions(list []impl.Fraction, n []int64, steps int64) ([][]int64, int64) {
	trace := [][]int64{n}
	for budget := int64(1); budget <= steps; budget++ {
		product, made, _, code := impl.RunFractions(list, n, budget)
		if code != impl.OK {
			return nil, code
		}
		if made == budget {
			trace = append(trace, product)
		}
	}
	return trace, impl.OK
}

var fractionCalls = calls[[]impl.Fraction, []int64]{stepOf, impl.RunFractions, traceOfFractions}

func TestPromise9FractionsRunAsTheModel(t *testing.T) {
	t.Parallel()
	forSomeFractions(t, 903, 250, func(_ *rand.Rand, list []impl.Fraction, n []int64) {
		fractionCalls.expectRuns(t, list, newFractionModel(list, n))
	})
}

// Near the greatest natural, runs come to where the model has no place for more.
func TestPromise9FractionsNearTheGreatest(t *testing.T) {
	full := 0
	forSomeFractions(t, 904, 500, func(random *rand.Rand, list []impl.Fraction, n []int64) {
		powers := big.NewInt(1)
		for {
			more := new(big.Int).Mul(powers, big.NewInt([]int64{2, 3, 5, 7}[random.Intn(4)]))
			if more.Cmp(beyondNaturals) >= 0 {
				break
			}
			powers = more
		}
		if fractionCalls.expectUntilTrouble(t, list, newFractionModel(list, naturalAt(t, powers)), 60) {
			full++
		}
	})
	if full < 100 {
		t.Errorf("only %d runs come to a product that is too long", full)
	}
}

func TestPromise9IndexOfTheFraction(t *testing.T) {
	forSomeFractions(t, 905, 1000, func(_ *rand.Rand, list []impl.Fraction, n []int64) {
		m := newFractionModel(list, n)
		code := m.step()
		if code != impl.OK {
			expect(t, show(impl.StepFractions(list, n)), show([]int64{}, 0, code))
			return
		}
		expect(t, show(impl.StepFractions(list, n)), show(m.config(), m.last, impl.OK))
	})
	for _, c := range []struct{ list, want string }{
		{"3/2", "[18] 0 0"}, {"1/5 1/7 1/12", "[1] 2 0"}, {"1/6 1/2", "[2] 0 0"}, {"1/2 1/6", "[6] 0 0"}, {"1/5 5/1 1/1", "[60] 1 0"}, {"5/7", "[] 0 6"}, {"1/24", "[] 0 6"}, {"1/8 1/9 1/10", "[] 0 6"},
		// Fractions that are not in lowest terms: 10/8 of 12 is 15, and 14/7 is 24.
		{"10/8", "[15] 0 0"}, {"5/8 14/7", "[24] 1 0"}, {"999999/999999", "[12] 0 0"}, {"7/21 1/1", "[4] 0 0"}, {"2/16 2/24", "[1] 1 0"},
	} {
		expect(t, show(c.list)+show(impl.StepFractions(fractionsOf(t, c.list), []int64{12})), show(c.list)+c.want)
	}
	last := append(slices.Repeat([]impl.Fraction{fraction(2, 7)}, 99), fraction(2, 1))
	expect(t, show(impl.StepFractions(last, []int64{5})), "[10] 99 0")
}

func TestPromise9LongProducts(t *testing.T) {
	halves := new(big.Int).Div(beyondNaturals, big.NewInt(2))
	half, above := naturalAt(t, new(big.Int).Sub(halves, one)), naturalAt(t, halves)
	double := fractionsOf(t, "2/1 1/1")
	even := naturalAt(t, new(big.Int).Sub(beyondNaturals, big.NewInt(2)))
	expect(t, show(impl.StepFractions(double, half)), show(even, 0, impl.OK))
	expect(t, show(impl.StepFractions(double, above)), "[] 0 5")
	expect(t, show(impl.RunFractions(double, half, 1)), show(even, 1, false, impl.OK))
	expect(t, show(impl.RunFractions(double, half, 2)), "[] 0 false 5")
	expect(t, show(impl.RunFractions(double, above, 1)), "[] 0 false 5")
	// The product before the division may be too long, but not the one behind it, whether or not the fraction is in lowest terms.
	for s, want := range map[string][]int64{
		"999999/999999": greatest, "999998/999998": greatest, "4/2 5/5": nil, "999998/999999": naturalAt(t, new(big.Int).Sub(bigOf(greatest), new(big.Int).Div(bigOf(greatest), big.NewInt(999999)))), "2/3": naturalAt(t, new(big.Int).Mul(big.NewInt(2), new(big.Int).Div(bigOf(greatest), big.NewInt(3)))), "6/9 2/1": naturalAt(t, new(big.Int).Mul(big.NewInt(2), new(big.Int).Div(bigOf(greatest), big.NewInt(3)))),
		"4/3": nil, "1000/999": nil, "3/7 1/9": naturalAt(t, new(big.Int).Mul(big.NewInt(3), new(big.Int).Div(bigOf(greatest), big.NewInt(7)))), "1/1": greatest, "999999/1": nil, "10/9 1/1": nil, "1/2 1/3": naturalAt(t, new(big.Int).Div(bigOf(greatest), big.NewInt(3))),
	} {
		product, _, code := impl.StepFractions(fractionsOf(t, s), greatest)
		expect(t, show(s, product, code), show(s, want, impl.ErrFull*btoi(want == nil)))
	}
	// A program halts, however long its natural is.
	expect(t, show(impl.StepFractions(fractionsOf(t, "999999/2"), greatest)), "[] 0 6")
	expect(t, show(impl.RunFractions(fractionsOf(t, "999999/2"), greatest, 1)), show(greatest, 0, true, impl.OK))
}

func TestPromise9FractionRunsGoOn(t *testing.T) {
	forSomeFractions(t, 906, 500, func(random *rand.Rand, list []impl.Fraction, n []int64) {
		first, second := 1+random.Int63n(40), 1+random.Int63n(40)
		middle, made, _, code := impl.RunFractions(list, n, first)
		end, more, halts, again := impl.RunFractions(list, middle, second)
		if code == impl.OK && again == impl.OK {
			expect(t, show(impl.RunFractions(list, n, first+second)), show(end, made+more, halts, impl.OK))
		}
		reduced, _ := impl.ReduceFractions(list)
		expect(t, show(impl.RunFractions(reduced, n, first)), show(impl.RunFractions(list, n, first)))
	})
}

func TestPromise9FractionBudgets(t *testing.T) {
	add := fractionsOf(t, "3/2")
	n, end := productOf(t, 2, 7, 3, 1), productOf(t, 3, 8)
	for budget, want := range map[int64]string{1: "1 false", 6: "6 false", 7: "7 true", 8: "7 true", impl.MaxBudget: "7 true"} {
		_, steps, halts, code := impl.RunFractions(add, n, budget)
		expect(t, show(budget, steps, halts, code), show(budget)+" "+want+" 0")
	}
	expect(t, show(impl.RunFractions(add, end, 1)), show(end, 0, true, impl.OK))
	expect(t, show(impl.RunFractions(add, []int64{1}, 1)), "[1] 0 true 0")
	expect(t, show(impl.RunFractions(fractionsOf(t, "1/1"), n, impl.MaxBudget)), show(n, impl.MaxBudget, false, impl.OK))
	expect(t, show(impl.RunFractions(fractionsOf(t, "2/3 3/2"), n, impl.MaxBudget)), show(n, impl.MaxBudget, false, impl.OK))
	for _, budget := range []int64{0, -1, impl.MaxBudget + 1, math.MinInt64, math.MaxInt64} {
		for _, n := range [][]int64{n, end, greatest} {
			expect(t, show(impl.RunFractions(add, n, budget)), "[] 0 false 2")
			expect(t, show(impl.RunFractions(fractionsOf(t, "2/1"), n, budget)), "[] 0 false 2")
			expect(t, show(impl.PowersSeen(add, n, 2, budget)), "[] 2")
			expect(t, show(impl.PowersSeen(fractionsOf(t, "2/1"), n, 2, budget)), "[] 2")
		}
	}
}

func TestPromise9InvalidFractions(t *testing.T) {
	add := fractionsOf(t, "3/2")
	for _, list := range badFractions() {
		for _, n := range [][]int64{{12}, nil, {1, 0}, greatest} {
			expectNoFractions(t, list, n)
		}
	}
	for _, n := range badNaturals() {
		expectNoFractions(t, add, n)
		expectNoFractions(t, fractionsOf(t, "1/1 2/1"), n)
		for _, primes := range [][]int64{nil, {2}, {2, 3}, {4}, {3, 2}, repeat(2, 65), {n2(n)}} {
			expect(t, show(impl.ExponentsAt(n, primes)), "[] [] 1")
		}
	}
}

// n2 returns the first number of a list, and 2 if there is none.
func n2(n []int64) int64 {
	if len(n) == 0 {
		return 2
	}
	return n[0]
}

// expectNoFractions checks that there are no runs, also if there is something wrong with the other arguments.
func expectNoFractions(t *testing.T, list []impl.Fraction, n []int64) {
	t.Helper()
	expect(t, show(impl.StepFractions(list, n)), "[] 0 1")
	for _, budget := range []int64{1, 0, impl.MaxBudget, impl.MaxBudget + 1} {
		expect(t, show(impl.RunFractions(list, n, budget)), "[] 0 false 1")
		for _, p := range []int64{2, 4, 0, greatestFactorPrime, 1000003} {
			expect(t, show(impl.PowersSeen(list, n, p, budget)), "[] 1")
		}
	}
}

// exponentOf returns the exponent of a power of p, and false if the value is none.
func exponentOf(value *big.Int, p int64) (int64, bool) {
	power := big.NewInt(1)
	for exponent := int64(0); power.Cmp(value) <= 0; exponent++ {
		if power.Cmp(value) == 0 {
			return exponent, true
		}
		power.Mul(power, big.NewInt(p))
	}
	return 0, false
}

// seenByModel returns what PowersSeen should return, by looking at all naturals of a run.
func seenByModel(list []impl.Fraction, n []int64, p, budget int64) ([]int64, int64) {
	m := newFractionModel(list, n)
	var seen []int64
	for made := int64(0); ; made++ {
		if exponent, is := exponentOf(m.value, p); is {
			seen = append(seen, exponent)
		}
		if len(seen) == 20 || made == budget || m.halts() {
			return seen, impl.OK
		}
		if m.step() != impl.OK {
			return nil, impl.ErrFull
		}
	}
}

func TestPromise9SeenPowers(t *testing.T) {
	t.Parallel()
	many, full := 0, 0
	forSomeFractions(t, 907, 1500, func(random *rand.Rand, list []impl.Fraction, n []int64) {
		if random.Intn(2) == 0 {
			n = productOf(t, []int64{2, 3, 5, 7}[random.Intn(4)], random.Int63n(6))
		}
		p, budget := []int64{2, 3, 5, 7, 11}[random.Intn(5)], 1+random.Int63n(300)
		want, code := seenByModel(list, n, p, budget)
		expect(t, show(impl.PowersSeen(list, n, p, budget)), show(want, code))
		many += btoi(len(want) == 20)
		full += btoi(code == impl.ErrFull)
	})
	if many < 20 || full < 20 {
		t.Errorf("only %d runs have all powers, and %d come to a product that is too long", many, full)
	}
}

func TestPromise9FewPowersSeen(t *testing.T) {
	for _, c := range []struct {
		list      string
		n         []int64
		p, budget int64
		want      string
	}{
		{"3/2", []int64{8}, 2, 10, "[3] 0"}, {"3/2", []int64{8}, 3, 10, "[3] 0"}, {"3/2", []int64{8}, 3, 3, "[3] 0"}, {"3/2", []int64{8}, 3, 2, "[] 0"}, {"3/2", []int64{8}, 5, 10, "[] 0"}, {"3/2", []int64{24}, 2, 10, "[] 0"},
		{"1/2", []int64{32}, 2, 10, "[5 4 3 2 1 0] 0"}, {"1/2", []int64{32}, 2, 4, "[5 4 3 2 1] 0"}, {"1/2", []int64{32}, 3, 10, "[0] 0"}, {"3/2", []int64{1}, 999983, 1, "[0] 0"}, {"999983/1", []int64{1}, 999983, 3, "[0 1 2 3] 0"},
		{"3/2 2/3", []int64{2}, 2, 6, "[1 1 1 1] 0"}, {"3/2 2/3", []int64{2}, 3, 6, "[1 1 1] 0"}, {"7/2", []int64{1}, 2, 1, "[0] 0"}, {"6/1 1/2", []int64{1}, 6, 1, "[] 2"},
	} {
		expect(t, show(c.list, c.p, c.budget)+show(impl.PowersSeen(fractionsOf(t, c.list), c.n, c.p, c.budget)), show(c.list, c.p, c.budget)+c.want)
	}
}

// The run ends at the power with which there are MaxSeen of them, whatever would come behind it.
func TestPromise9MostPowersSeen(t *testing.T) {
	double, same := fractionsOf(t, "2/1"), fractionsOf(t, "1/1")
	for budget := int64(1); budget <= 40; budget++ {
		var up []int64
		for e := int64(0); e < 20 && e <= budget; e++ {
			up = append(up, e)
		}
		expect(t, show(impl.PowersSeen(double, []int64{1}, 2, budget)), show(up, impl.OK))
		expect(t, show(impl.PowersSeen(same, []int64{32}, 2, budget)), show(repeat(5, min(20, int(budget)+1)), impl.OK))
	}
	// The power 797 of 2 is the greatest one that is a natural.
	most := int64(797)
	if _, code := limbsOf(new(big.Int).Lsh(one, uint(most))); code != impl.OK || beyondNaturals.Cmp(new(big.Int).Lsh(one, uint(most)+1)) > 0 {
		t.Fatalf("%d is not the exponent of the greatest power", most)
	}
	var last []int64
	for e := most - 19; e <= most; e++ {
		last = append(last, e)
	}
	for _, budget := range []int64{19, 20, impl.MaxBudget} {
		expect(t, show(impl.PowersSeen(double, []int64{1}, 2, budget)), show([]int64{0, 1, 2, 3, 4, 5, 6, 7, 8, 9, 10, 11, 12, 13, 14, 15, 16, 17, 18, 19}, impl.OK))
		expect(t, show(impl.PowersSeen(double, productOf(t, 2, most-19), 2, budget)), show(last, impl.OK))
		expect(t, show(impl.PowersSeen(double, productOf(t, 2, most-18), 2, budget)), "[] 5")
	}
	expect(t, show(impl.PowersSeen(double, productOf(t, 2, most-18), 2, 18)), show(last[1:], impl.OK))
	expect(t, show(impl.PowersSeen(double, productOf(t, 2, most), 2, 1)), "[] 5")
	expect(t, show(impl.PowersSeen(double, greatest, 2, 1)), "[] 5")
	expect(t, show(impl.PowersSeen(double, productOf(t, 3, 1, 2, most-2), 2, 1)), "[] 5")
	expect(t, show(impl.PowersSeen(double, productOf(t, 3, 1), 2, most-2)), "[] 0")
	expect(t, show(impl.PowersSeen(double, productOf(t, 3, 1), 2, most-1)), "[] 5")
	expect(t, show(impl.PowersSeen(double, productOf(t, 3, 1), 4, most-1)), "[] 2")
}

func TestPromise9PrimesToBeSeen(t *testing.T) {
	add := fractionsOf(t, "3/2")
	for _, p := range []int64{4, 1, 0, -1, -2, -3, 9, 15, 91, 999999, 999984, 994009, 1000000, 1000003, 999999999989, math.MinInt64, math.MaxInt64} {
		for _, n := range [][]int64{{1}, {2}, {12}, greatest} {
			expect(t, show(p, show(impl.PowersSeen(add, n, p, 5))), show(p, "[] 2"))
			expect(t, show(p, show(impl.ExponentsAt(n, []int64{p}))), show(p, "[] [] 2"))
		}
	}
	for _, p := range []int64{2, 3, 5, 7, 11, 997, 65537, 999979, greatestFactorPrime} {
		n := productOf(t, p, 3)
		expect(t, show(impl.PowersSeen(add, n, p, 1)), "[3] 0")
		expect(t, show(impl.ExponentsAt(n, []int64{p})), "[3] [1] 0")
	}
}

func TestPromise9Exponents(t *testing.T) {
	for _, c := range []struct {
		n, primes []int64
		want      string
	}{
		{[]int64{72}, []int64{2, 3}, "[3 2] [1] 0"}, {[]int64{72}, []int64{3}, "[2] [8] 0"}, {[]int64{72}, []int64{2, 5}, "[3 0] [9] 0"}, {[]int64{72}, nil, "[] [72] 0"}, {[]int64{1}, nil, "[] [1] 0"}, {[]int64{1}, []int64{2, 3, 999983}, "[0 0 0] [1] 0"},
		{[]int64{0, 1}, []int64{2, 5}, "[6 6] [1] 0"}, {[]int64{0, 0, 1}, []int64{5}, "[12] [4096] 0"}, {[]int64{999983}, []int64{2, 999983}, "[0 1] [1] 0"},
	} {
		expect(t, show(impl.ExponentsAt(c.n, c.primes)), c.want)
	}
	random := rand.New(rand.NewSource(908))
	few := []int64{2, 3, 5, 7, 11, 13, 997, 999979, greatestFactorPrime}
	for _, n := range append(someNaturals(909, 200), productOf(t, 2, 797), productOf(t, 3, 500), productOf(t, 2, 100, 3, 100, 5, 50)) {
		if len(n) == 0 {
			continue
		}
		var primes []int64
		for _, p := range few {
			if random.Intn(2) == 0 {
				primes = append(primes, p)
			}
		}
		rest := bigOf(n)
		var want []int64
		for _, p := range primes {
			exponent := int64(0)
			for {
				quotient, left := new(big.Int).QuoRem(rest, big.NewInt(p), new(big.Int))
				if left.Sign() != 0 {
					break
				}
				rest = quotient
				exponent++
			}
			want = append(want, exponent)
		}
		expect(t, show(impl.ExponentsAt(n, primes)), show(want, naturalAt(t, rest), impl.OK))
	}
}

func TestPromise9ListsOfPrimes(t *testing.T) {
	primes := primesTo(400)
	for many := 60; many <= 70; many++ {
		exponents, rest, code := impl.ExponentsAt([]int64{720720}, primes[:many])
		if many > 64 {
			expect(t, show(exponents, rest, code), "[] [] 2")
			continue
		}
		expect(t, show(exponents, rest, code), show(append([]int64{4, 2, 1, 1, 1, 1}, repeat(0, many-6)...), []int64{1}, impl.OK))
	}
	for _, bad := range [][]int64{
		{2, 2}, {3, 2}, {2, 3, 3}, {2, 5, 3}, {5, 3, 2}, {2, 3, 4}, {2, 4, 5}, {1, 2}, {0, 2}, {-2, 2}, {-3, -2}, {2, 3, 1000003}, {2, 1000000}, {2, 999999}, {math.MinInt64}, {2, math.MaxInt64}, repeat(2, 64), repeat(2, 65), repeat(2, 1000), {2, 3, 5, 2}, {999983, 2},
	} {
		for _, n := range [][]int64{{1}, {12}, greatest} {
			expect(t, show(bad, show(impl.ExponentsAt(n, bad))), show(bad, "[] [] 2"))
		}
	}
}

func TestPromise9KnownFractions(t *testing.T) {
	for k, text := range knownTexts {
		list, code := impl.KnownFractions(int64(k))
		expect(t, show(impl.FractionsText(list), code), show(text, impl.OK))
	}
	for _, k := range []int64{-1, 3, 4, 100, -100, math.MinInt64, math.MaxInt64} {
		expect(t, show(impl.KnownFractions(k)), "[] 2")
	}
}

func TestPromise9FractionsAdd(t *testing.T) {
	add, _ := impl.KnownFractions(0)
	for a := range int64(15) {
		for b := range int64(15) {
			expect(t, show(impl.RunFractions(add, productOf(t, 2, a, 3, b), impl.MaxBudget)), show(productOf(t, 3, a+b), a, true, impl.OK))
		}
	}
	// The power 503 of 3 is the greatest one that is a natural.
	greatSum := productOf(t, 3, 503)
	expect(t, show(impl.RunFractions(add, productOf(t, 2, 250, 3, 253), 250)), show(greatSum, 250, true, impl.OK))
	expect(t, show(impl.RunFractions(add, productOf(t, 2, 503), impl.MaxBudget)), show(greatSum, 503, true, impl.OK))
	expect(t, show(impl.RunFractions(add, productOf(t, 2, 250, 3, 254), impl.MaxBudget)), "[] 0 false 5")
	expect(t, show(impl.PowersSeen(add, productOf(t, 2, 503), 3, 503)), "[503] 0")
	// On the way from the power 504 of 2, the product of the power 501 of 3 and 8 is the last one that is a natural.
	expect(t, show(impl.PowersSeen(add, productOf(t, 2, 504), 3, 501)), "[] 0")
	expect(t, show(impl.PowersSeen(add, productOf(t, 2, 504), 3, 502)), "[] 5")
}

func TestPromise9FractionsMultiply(t *testing.T) {
	times, _ := impl.KnownFractions(1)
	for a := range int64(9) {
		for b := range int64(9) {
			end, _, halts, code := impl.RunFractions(times, productOf(t, 2, a, 3, b), impl.MaxBudget)
			expect(t, show(end, halts, code), show(productOf(t, 5, a*b), true, impl.OK))
			exponents, rest, code := impl.ExponentsAt(end, []int64{2, 3, 5})
			expect(t, show(exponents, rest, code), show([]int64{0, 0, a * b}, []int64{1}, impl.OK))
		}
	}
}

func TestPromise9FractionsFindPrimes(t *testing.T) {
	primes, _ := impl.KnownFractions(2)
	seen, code := impl.PowersSeen(primes, []int64{2}, 2, impl.MaxBudget)
	if len(seen) < 8 {
		t.Fatalf("only %v is seen", seen)
	}
	expect(t, show(seen, code), show(append([]int64{1}, primesTo(100)[:len(seen)-1]...), impl.OK))
	model, code := seenByModel(primes, []int64{2}, 2, impl.MaxBudget)
	expect(t, show(seen), show(model))
	expect(t, show(code), "0")
}
