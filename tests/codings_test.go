package tests

import (
	"math"
	"math/big"
	"math/rand"
	"slices"
	"testing"

	"loop.example/g01079/impl"
)

// The greatest natural has MaxLimbs limbs; beyondNaturals is the least number that is greater.
var (
	greatest       = repeat(999999, impl.MaxLimbs)
	beyondNaturals = new(big.Int).Exp(big.NewInt(10), big.NewInt(6*impl.MaxLimbs), nil)
	one            = big.NewInt(1)
)

// naturalAt returns the natural with a value that is known to have at most MaxLimbs limbs.
func naturalAt(t *testing.T, value *big.Int) []int64 {
	t.Helper()
	n, code := limbsOf(value)
	if code != impl.OK {
		t.Fatalf("%v is too great for a natural", value)
	}
	return n
}

func small(n int64) []int64 {
	natural, _ := limbsOf(big.NewInt(n))
	return natural
}

// pairNumber returns the number of a pair by the formula of the document.
func pairNumber(a, b *big.Int) *big.Int {
	sum := new(big.Int).Add(a, b)
	number := new(big.Int).Mul(sum, new(big.Int).Add(sum, one))
	return number.Rsh(number, 1).Add(number, b)
}

// pairAt returns the pair with a number; the sum is found bit by bit, without a root.
func pairAt(n *big.Int) (*big.Int, *big.Int) {
	sum := new(big.Int)
	for bit := n.BitLen(); bit >= 0; bit-- {
		if greater := new(big.Int).SetBit(sum, bit, 1); pairNumber(greater, new(big.Int)).Cmp(n) <= 0 {
			sum = greater
		}
	}
	b := new(big.Int).Sub(n, pairNumber(sum, new(big.Int)))
	return new(big.Int).Sub(sum, b), b
}

func TestPromise5NoNatural(t *testing.T) {
	for _, bad := range notNaturals {
		for _, pair := range [][2][]int64{{bad, {6}}, {{6}, bad}, {bad, nil}, {nil, bad}, {bad, bad}, {bad, greatest}, {greatest, bad}} {
			expect(t, show(impl.PairOf(pair[0], pair[1])), "[] 1")
			expect(t, show(impl.WeaveNaturals(pair[0], pair[1])), "[] 1")
			expect(t, show(impl.TupleNumber(pair[:])), "[] 1")
			expect(t, show(impl.SequenceNumber(pair[:])), "[] 1")
		}
		expect(t, show(impl.UnpairOf(bad)), "[] [] 1")
		expect(t, show(impl.TupleOf(bad, 2)), "[] 1")
		expect(t, show(impl.SequenceOf(bad)), "[] 1")
		expect(t, show(impl.PrimeList(bad)), "[] 1")
		expect(t, show(impl.WordOf(bad, 2)), "[] 1")
		expect(t, show(impl.SetOf(bad)), "[] 1")
		expect(t, show(impl.SignedNumber(true, bad)), "[] 1")
		expect(t, show(impl.SignedNumber(false, bad)), "[] 1")
		expect(t, show(impl.SignedOf(bad)), "false [] 1")
		expect(t, show(impl.UnweaveNatural(bad)), "[] [] 1")
	}
}

func TestPromise5Pairs(t *testing.T) {
	expect(t, show(impl.PairOf([]int64{1}, []int64{2})), "[8] 0")
	for n, pair := range [][2][]int64{{nil, nil}, {{1}, nil}, {nil, {1}}, {{2}, nil}} {
		expect(t, show(impl.PairOf(pair[0], pair[1])), show(small(int64(n)), impl.OK))
		expect(t, show(impl.UnpairOf(small(int64(n)))), show(pair[0], pair[1], impl.OK))
	}
	var number int64
	for sum := range int64(60) {
		for b := range sum + 1 {
			expect(t, show(impl.PairOf(small(sum-b), small(b))), show(small(number), impl.OK))
			expect(t, show(impl.UnpairOf(small(number))), show(small(sum-b), small(b), impl.OK))
			number++
		}
	}
	naturals := someNaturals(15, 60)
	for _, a := range naturals {
		for _, b := range naturals {
			want, full := limbsOf(pairNumber(bigOf(a), bigOf(b)))
			expect(t, show(impl.PairOf(a, b)), show(want, full))
			if full == impl.OK {
				expect(t, show(impl.UnpairOf(want)), show(a, b, impl.OK))
			}
		}
	}
	for _, n := range someNaturals(16, 300) {
		a, b := pairAt(bigOf(n))
		expect(t, show(impl.UnpairOf(n)), show(naturalAt(t, a), naturalAt(t, b), impl.OK))
		expect(t, show(impl.PairOf(naturalAt(t, a), naturalAt(t, b))), show(n, impl.OK))
	}
}

// Where the sum of the pairs changes, a root that is wrong by 1 would be seen.
func TestPromise5PairsWithGreatSums(t *testing.T) {
	for _, sum := range someNaturals(17, 100) {
		first := pairNumber(bigOf(sum), new(big.Int))
		n, code := limbsOf(first)
		if code != impl.OK || len(sum) == 0 {
			continue
		}
		expect(t, show(impl.UnpairOf(n)), show(sum, []int64{}, impl.OK))
		before := naturalAt(t, new(big.Int).Sub(first, one))
		lesser := naturalAt(t, new(big.Int).Sub(bigOf(sum), one))
		expect(t, show(impl.UnpairOf(before)), show([]int64{}, lesser, impl.OK))
	}
}

func TestPromise5PairLimits(t *testing.T) {
	// The last pair has a number with MaxLimbs limbs, although twice the triangle of its sum has one more.
	a, b := pairAt(new(big.Int).Sub(beyondNaturals, one))
	expect(t, show(impl.UnpairOf(greatest)), show(naturalAt(t, a), naturalAt(t, b), impl.OK))
	expect(t, show(impl.PairOf(naturalAt(t, a), naturalAt(t, b))), show(greatest, impl.OK))
	a, b = pairAt(beyondNaturals)
	expect(t, show(impl.PairOf(naturalAt(t, a), naturalAt(t, b))), "[] 5")
	for _, pair := range [][2][]int64{{greatest, greatest}, {greatest, nil}, {nil, greatest}, {greatest, {1}}} {
		expect(t, show(impl.PairOf(pair[0], pair[1])), "[] 5")
	}
}

// tupleNumber returns the number of naturals one after the other, without a limit.
func tupleNumber(list []*big.Int) *big.Int {
	if len(list) == 1 {
		return list[0]
	}
	return pairNumber(list[0], tupleNumber(list[1:]))
}

// tupleAt returns the tuple of k naturals with a number.
func tupleAt(n *big.Int, k int) []*big.Int {
	if k == 1 {
		return []*big.Int{n}
	}
	first, others := pairAt(n)
	return append([]*big.Int{first}, tupleAt(others, k-1)...)
}

func naturalsAt(t *testing.T, values []*big.Int) [][]int64 {
	t.Helper()
	var list [][]int64
	for _, value := range values {
		list = append(list, naturalAt(t, value))
	}
	return list
}

func TestPromise5Tuples(t *testing.T) {
	expect(t, show(impl.TupleNumber([][]int64{{1}, {2}, {}})), "[13] 0")
	expect(t, show(impl.TupleOf([]int64{13}, 3)), "[[1] [2] []] 0")
	expect(t, show(impl.TupleNumber([][]int64{greatest})), show(greatest, impl.OK))
	expect(t, show(impl.TupleNumber([][]int64{nil})), "[] 0")
	for k := 1; k <= impl.MaxTuple; k++ {
		for _, n := range someNaturals(int64(17+k), 20) {
			tuple := naturalsAt(t, tupleAt(bigOf(n), k))
			expect(t, show(impl.TupleOf(n, int64(k))), show(tuple, impl.OK))
			expect(t, show(impl.TupleNumber(tuple)), show(n, impl.OK))
		}
		for n := range int64(200) {
			tuple, code := impl.TupleOf(small(n), int64(k))
			expect(t, show(len(tuple), code), show(k, impl.OK))
			expect(t, show(impl.TupleNumber(tuple)), show(small(n), impl.OK))
		}
		for _, element := range [][]int64{{1}, {17}, {5, 5}, repeat(999999, 3), repeat(999999, 20)} {
			list := slices.Repeat([][]int64{element}, k)
			values := slices.Repeat([]*big.Int{bigOf(element)}, k)
			want, full := limbsOf(tupleNumber(values))
			expect(t, show(impl.TupleNumber(list)), show(want, full))
		}
	}
}

func TestPromise5TupleLimits(t *testing.T) {
	for k := 1; k <= impl.MaxTuple; k++ {
		last := naturalsAt(t, tupleAt(new(big.Int).Sub(beyondNaturals, one), k))
		expect(t, show(impl.TupleOf(greatest, int64(k))), show(last, impl.OK))
		expect(t, show(impl.TupleNumber(last)), show(greatest, impl.OK))
		if k > 1 {
			expect(t, show(impl.TupleNumber(naturalsAt(t, tupleAt(beyondNaturals, k)))), "[] 5")
			expect(t, show(impl.TupleNumber(slices.Repeat([][]int64{greatest}, k))), "[] 5")
		}
	}
	for _, k := range []int64{0, -1, impl.MaxTuple + 1, math.MinInt64, math.MaxInt64} {
		expect(t, show(impl.TupleOf([]int64{13}, k)), "[] 2")
		expect(t, show(impl.TupleOf([]int64{1, 0}, k)), "[] 1")
	}
	expect(t, show(impl.TupleNumber(nil)), "[] 2")
	expect(t, show(impl.TupleNumber([][]int64{})), "[] 2")
	expect(t, show(impl.TupleNumber(make([][]int64, impl.MaxTuple+1))), "[] 2")
	expect(t, show(impl.TupleNumber(slices.Repeat([][]int64{greatest}, impl.MaxTuple+1))), "[] 2")
	expect(t, show(impl.TupleNumber(append(make([][]int64, impl.MaxTuple), []int64{0}))), "[] 1")
}

// sequenceAt returns the list of any length with a number.
func sequenceAt(n *big.Int) []*big.Int {
	if n.Sign() == 0 {
		return nil
	}
	first, others := pairAt(new(big.Int).Sub(n, one))
	return append([]*big.Int{first}, sequenceAt(others)...)
}

func TestPromise5Sequences(t *testing.T) {
	expect(t, show(impl.SequenceNumber([][]int64{{1}})), "[2] 0")
	expect(t, show(impl.SequenceOf([]int64{2})), "[[1]] 0")
	expect(t, show(impl.SequenceNumber(nil)), "[] 0")
	expect(t, show(impl.SequenceOf(nil)), "[] 0")
	expect(t, show(impl.SequenceNumber([][]int64{nil})), "[1] 0")
	var naturals [][]int64
	for n := range int64(3000) {
		naturals = append(naturals, small(n))
	}
	for _, n := range append(naturals, someNaturals(27, 200)...) {
		values := sequenceAt(bigOf(n))
		if len(values) > impl.MaxTuple {
			expect(t, show(impl.SequenceOf(n)), "[] 5")
			continue
		}
		sequence := naturalsAt(t, values)
		expect(t, show(impl.SequenceOf(n)), show(sequence, impl.OK))
		expect(t, show(impl.SequenceNumber(sequence)), show(n, impl.OK))
	}
}

func TestPromise5SequenceLimits(t *testing.T) {
	number := new(big.Int)
	for length := range impl.MaxTuple + 2 {
		zeros := make([][]int64, length)
		n := naturalAt(t, number)
		if length <= impl.MaxTuple {
			expect(t, show(impl.SequenceNumber(zeros)), show(n, impl.OK))
			expect(t, show(impl.SequenceOf(n)), show(zeros, impl.OK))
		} else {
			expect(t, show(impl.SequenceNumber(zeros)), "[] 2")
			expect(t, show(impl.SequenceOf(n)), "[] 5")
		}
		number = pairNumber(new(big.Int), number)
		number.Add(number, one)
	}
	expect(t, show(impl.SequenceNumber(slices.Repeat([][]int64{greatest}, impl.MaxTuple))), "[] 5")
	expect(t, show(impl.SequenceNumber(slices.Repeat([][]int64{greatest}, impl.MaxTuple+1))), "[] 2")
	expect(t, show(impl.SequenceNumber(append(make([][]int64, impl.MaxTuple), []int64{0}))), "[] 1")
	// The last list has the greatest natural as its number. The two numbers behind it are those of longer lists.
	last := naturalsAt(t, sequenceAt(bigOf(greatest)))
	expect(t, show(impl.SequenceNumber(last)), show(greatest, impl.OK))
	expect(t, show(impl.SequenceOf(greatest)), show(last, impl.OK))
	beyond := naturalsAt(t, sequenceAt(new(big.Int).Add(beyondNaturals, big.NewInt(2))))
	expect(t, show(len(beyond)), show(impl.MaxTuple))
	expect(t, show(impl.SequenceNumber(beyond)), "[] 5")
}

// primeProduct returns the PrimeNumber of a list without a limit.
func primeProduct(list []int64) *big.Int {
	product := big.NewInt(1)
	prime := int64(1)
	for _, element := range list {
		for prime++; !big.NewInt(prime).ProbablyPrime(0); prime++ {
		}
		product.Mul(product, new(big.Int).Exp(big.NewInt(prime), big.NewInt(element+1), nil))
	}
	return product
}

func TestPromise5Primes(t *testing.T) {
	expect(t, show(impl.PrimeNumber([]int64{1, 0})), "[12] 0")
	expect(t, show(impl.PrimeList([]int64{12})), "[1 0] 0")
	expect(t, show(impl.PrimeNumber(nil)), "[1] 0")
	expect(t, show(impl.PrimeList([]int64{1})), "[] 0")
	expect(t, show(impl.PrimeList([]int64{10})), "[] 3")
	expect(t, show(impl.PrimeList(nil)), "[] 3")
	lists := map[int64][]int64{}
	for _, list := range allWords(12, 5) {
		if value := primeProduct(list); value.Cmp(big.NewInt(3000)) < 0 {
			lists[value.Int64()] = list
		}
	}
	for n := int64(1); n < 3000; n++ {
		want := "[] 3"
		if list, ok := lists[n]; ok {
			want = show(list, impl.OK)
		}
		expect(t, show(impl.PrimeList(small(n))), want)
	}
	r := rand.New(rand.NewSource(28))
	for range 500 {
		list := make([]int64, r.Intn(impl.MaxCoded+1))
		for i := range list {
			list[i] = r.Int63n(1 + r.Int63n(24))
		}
		want, full := limbsOf(primeProduct(list))
		expect(t, show(impl.PrimeNumber(list)), show(want, full))
		if full == impl.OK {
			expect(t, show(impl.PrimeList(want)), show(list, impl.OK))
		}
	}
}

func TestPromise5PrimeLimits(t *testing.T) {
	all := primeProduct(repeat(0, 24))
	expect(t, show(impl.PrimeNumber(repeat(0, 24))), show(naturalAt(t, all), impl.OK))
	expect(t, show(impl.PrimeList(naturalAt(t, all))), show(repeat(0, 24), impl.OK))
	expect(t, show(impl.PrimeNumber(repeat(0, 25))), "[] 2")
	// 97 is the first prime beyond those that may occur.
	for _, beyond := range []int64{97, 97 * 97, 101, 999983} {
		expect(t, show(impl.PrimeList(naturalAt(t, new(big.Int).Mul(all, big.NewInt(beyond))))), "[] 3")
		expect(t, show(impl.PrimeList(small(beyond))), "[] 3")
		expect(t, show(impl.PrimeList(small(2*beyond))), "[] 3")
	}
	expect(t, show(impl.PrimeList(naturalAt(t, new(big.Int).Quo(all, big.NewInt(83))))), "[] 3")
	// The power 797 of 2 is the greatest one with at most MaxLimbs limbs.
	power := naturalAt(t, new(big.Int).Exp(big.NewInt(2), big.NewInt(797), nil))
	expect(t, show(impl.PrimeNumber([]int64{796})), show(power, impl.OK))
	expect(t, show(impl.PrimeList(power)), "[796] 0")
	for _, list := range [][]int64{{797}, {impl.MaxPower}, {796, 0}, {0, impl.MaxPower}, repeat(impl.MaxPower, 24)} {
		expect(t, show(impl.PrimeNumber(list)), "[] 5")
	}
	for _, list := range [][]int64{{-1}, {impl.MaxPower + 1}, {0, -1}, {impl.MaxPower, -1}, {math.MinInt64}, {math.MaxInt64}, repeat(impl.MaxPower, 25), append(repeat(impl.MaxPower, 23), 801)} {
		expect(t, show(impl.PrimeNumber(list)), "[] 2")
	}
	expect(t, show(impl.PrimeList(greatest)), "[] 3")
	expect(t, show(impl.PrimeList(append(repeat(0, 39), 1))), "[] 3")
}

// wordWithNumber returns the word over at least 2 letters before which so many words stand: those that are shorter are counted
// by their lengths, and what is left are digits.
func wordWithNumber(n *big.Int, letters int64) []int64 {
	base := big.NewInt(letters)
	rest, count, length := new(big.Int).Set(n), big.NewInt(1), 0
	for rest.Cmp(count) >= 0 {
		rest.Sub(rest, count)
		count.Mul(count, base)
		length++
	}
	w, digit := make([]int64, length), new(big.Int)
	for i := length - 1; i >= 0; i-- {
		rest.QuoRem(rest, base, digit)
		w[i] = digit.Int64()
	}
	return w
}

func TestPromise5Words(t *testing.T) {
	expect(t, show(impl.WordNumber([]int64{0, 0}, 2)), "[3] 0")
	for n, w := range [][]int64{nil, {0}, {1}, {0, 0}} {
		expect(t, show(impl.WordOf(small(int64(n)), 2)), show(w, impl.OK))
	}
	for letters := int64(1); letters <= impl.MaxLetter+1; letters++ {
		for n, w := range shortWords(letters) {
			expect(t, show(impl.WordNumber(w, letters)), show(small(int64(n)), impl.OK))
			expect(t, show(impl.WordOf(small(int64(n)), letters)), show(w, impl.OK))
		}
	}
	for letters := int64(2); letters <= impl.MaxLetter+1; letters++ {
		for _, n := range someNaturals(28+letters, 60) {
			w := wordWithNumber(bigOf(n), letters)
			if len(w) > impl.MaxWord {
				expect(t, show(impl.WordOf(n, letters)), "[] 5")
				continue
			}
			expect(t, show(impl.WordOf(n, letters)), show(w, impl.OK))
			expect(t, show(impl.WordNumber(w, letters)), show(n, impl.OK))
		}
	}
}

func TestPromise5WordLimits(t *testing.T) {
	for letters := int64(2); letters <= impl.MaxLetter+1; letters++ {
		last := wordWithNumber(new(big.Int).Sub(beyondNaturals, one), letters)
		if len(last) > impl.MaxWord {
			// Over so few letters, the words are too long before their numbers are too great.
			longest, code := impl.WordNumber(repeat(letters-1, impl.MaxWord), letters)
			expect(t, show(code), "0")
			expect(t, show(impl.WordOf(longest, letters)), show(repeat(letters-1, impl.MaxWord), impl.OK))
			longer := naturalAt(t, new(big.Int).Add(bigOf(longest), one))
			expect(t, show(impl.WordOf(longer, letters)), "[] 5")
			expect(t, show(impl.WordOf(greatest, letters)), "[] 5")
			continue
		}
		expect(t, show(impl.WordOf(greatest, letters)), show(last, impl.OK))
		expect(t, show(impl.WordNumber(last, letters)), show(greatest, impl.OK))
		expect(t, show(impl.WordNumber(wordWithNumber(beyondNaturals, letters), letters)), "[] 5")
		expect(t, show(impl.WordNumber(repeat(letters-1, impl.MaxWord), letters)), "[] 5")
	}
	expect(t, show(impl.WordNumber(repeat(0, 400), 1)), "[400] 0")
	expect(t, show(impl.WordOf([]int64{400}, 1)), show(repeat(0, 400), impl.OK))
	expect(t, show(impl.WordOf([]int64{401}, 1)), "[] 5")
	expect(t, show(impl.WordOf(greatest, 1)), "[] 5")
	for _, letters := range []int64{0, -1, 11, math.MinInt64, math.MaxInt64} {
		expect(t, show(impl.WordNumber(nil, letters)), "[] 2")
		expect(t, show(impl.WordOf(nil, letters)), "[] 2")
		expect(t, show(impl.WordOf(greatest, letters)), "[] 2")
		expect(t, show(impl.WordOf([]int64{0}, letters)), "[] 1")
	}
	for _, w := range notWords {
		expect(t, show(impl.WordNumber(w, 10)), "[] 2")
	}
	expect(t, show(impl.WordNumber([]int64{0, 2}, 2)), "[] 2")
	expect(t, show(impl.WordNumber(append(repeat(8, 399), 9), 9)), "[] 2")
}

func TestPromise5Sets(t *testing.T) {
	expect(t, show(impl.SetNumber([]int64{0, 3})), "[9] 0")
	expect(t, show(impl.SetOf([]int64{9})), "[0 3] 0")
	expect(t, show(impl.SetNumber(nil)), "[] 0")
	expect(t, show(impl.SetOf(nil)), "[] 0")
	for _, n := range append(someNaturals(40, 300), greatest) {
		var set []int64
		value := bigOf(n)
		for bit := range value.BitLen() {
			if value.Bit(bit) == 1 {
				set = append(set, int64(bit))
			}
		}
		expect(t, show(impl.SetOf(n)), show(set, impl.OK))
		expect(t, show(impl.SetNumber(set)), show(n, impl.OK))
	}
	for bit := range int64(impl.MaxPower) {
		want, full := limbsOf(new(big.Int).Lsh(one, uint(bit)))
		expect(t, show(impl.SetNumber([]int64{bit})), show(want, full))
	}
}

func TestPromise5SetLimits(t *testing.T) {
	var beyond, all []int64
	for bit := range int64(impl.MaxPower) {
		all = append(all, bit)
		if beyondNaturals.Bit(int(bit)) == 1 {
			beyond = append(beyond, bit)
		}
	}
	for _, set := range [][]int64{beyond, all, {798}, {799}, {0, 799}, {796, 797}} {
		expect(t, show(impl.SetNumber(set)), "[] 5")
	}
	_, code := impl.SetNumber([]int64{797})
	expect(t, show(code), "0")
	for _, list := range [][]int64{{-1}, {800}, {0, 0}, {1, 0}, {0, 3, 2}, {0, 3, 3}, {799, 0}, {-1, 799}, {0, 800}, {math.MinInt64, 0}, {0, math.MaxInt64}, append(all, 800), append(all, 799)} {
		expect(t, show(impl.SetNumber(list)), "[] 2")
	}
}

func TestPromise5Signs(t *testing.T) {
	expect(t, show(impl.SignedNumber(true, []int64{2})), "[3] 0")
	expect(t, show(impl.SignedOf([]int64{3})), "true [2] 0")
	expect(t, show(impl.SignedNumber(false, nil)), "[] 0")
	expect(t, show(impl.SignedOf(nil)), "false [] 0")
	expect(t, show(impl.SignedNumber(true, nil)), "[] 2")
	for _, n := range someNaturals(41, 300) {
		double := new(big.Int).Lsh(bigOf(n), 1)
		want, full := limbsOf(double)
		expect(t, show(impl.SignedNumber(false, n)), show(want, full))
		if full == impl.OK {
			expect(t, show(impl.SignedOf(want)), show(false, n, impl.OK))
		}
		if len(n) > 0 {
			less, lessFull := limbsOf(new(big.Int).Sub(double, one))
			expect(t, show(impl.SignedNumber(true, n)), show(less, lessFull))
			if lessFull == impl.OK {
				expect(t, show(impl.SignedOf(less)), show(true, n, impl.OK))
			}
		}
		negative, absolute, _ := impl.SignedOf(n)
		expect(t, show(impl.SignedNumber(negative, absolute)), show(n, impl.OK))
	}
}

func TestPromise5SignLimits(t *testing.T) {
	// Twice the half has one limb too many, but is 1 more than the greatest natural.
	half := append(repeat(0, 39), 500000)
	expect(t, show(impl.SignedNumber(true, half)), show(greatest, impl.OK))
	expect(t, show(impl.SignedNumber(false, half)), "[] 5")
	expect(t, show(impl.SignedOf(greatest)), show(true, half, impl.OK))
	more := append([]int64{1}, half[1:]...)
	expect(t, show(impl.SignedNumber(true, more)), "[] 5")
	less := append(repeat(999999, 39), 499999)
	expect(t, show(impl.SignedNumber(false, less)), show(append([]int64{999998}, greatest[1:]...), impl.OK))
	expect(t, show(impl.SignedNumber(true, greatest)), "[] 5")
}

// woven writes the decimal digits of two naturals in turn, as a text.
func woven(a, b []int64) *big.Int {
	x, y := bigOf(a).String(), bigOf(b).String()
	var text []byte
	for i := range max(len(x), len(y)) {
		low, high := byte('0'), byte('0')
		if i < len(x) {
			low = x[len(x)-1-i]
		}
		if i < len(y) {
			high = y[len(y)-1-i]
		}
		text = append(text, low, high)
	}
	slices.Reverse(text)
	value, _ := new(big.Int).SetString(string(text), 10)
	return value
}

func TestPromise5Weaving(t *testing.T) {
	expect(t, show(impl.WeaveNaturals([]int64{12}, []int64{345})), "[304152] 0")
	expect(t, show(impl.UnweaveNatural([]int64{304152})), "[12] [345] 0")
	expect(t, show(impl.WeaveNaturals(nil, nil)), "[] 0")
	expect(t, show(impl.UnweaveNatural(nil)), "[] [] 0")
	expect(t, show(impl.WeaveNaturals([]int64{1}, nil)), "[1] 0")
	expect(t, show(impl.WeaveNaturals(nil, []int64{1})), "[10] 0")
	expect(t, show(impl.UnweaveNatural([]int64{10})), "[] [1] 0")
	naturals := someNaturals(42, 60)
	for _, a := range naturals {
		for _, b := range naturals {
			want, full := limbsOf(woven(a, b))
			expect(t, show(impl.WeaveNaturals(a, b)), show(want, full))
			if full == impl.OK {
				expect(t, show(impl.UnweaveNatural(want)), show(a, b, impl.OK))
			}
		}
	}
	for _, n := range someNaturals(43, 300) {
		a, b, code := impl.UnweaveNatural(n)
		expect(t, show(code), "0")
		expect(t, show(impl.WeaveNaturals(a, b)), show(n, impl.OK))
	}
}

func TestPromise5WeavingLimits(t *testing.T) {
	longest, longer := repeat(999999, 20), append(repeat(0, 20), 1)
	expect(t, show(impl.WeaveNaturals(longest, longest)), show(greatest, impl.OK))
	expect(t, show(impl.UnweaveNatural(greatest)), show(longest, longest, impl.OK))
	for _, pair := range [][2][]int64{{longer, nil}, {nil, longer}, {longer, longest}, {longest, longer}, {greatest, greatest}, {greatest, nil}} {
		expect(t, show(impl.WeaveNaturals(pair[0], pair[1])), "[] 5")
	}
	top := append(repeat(0, 19), 100000)
	expect(t, show(impl.WeaveNaturals(top, nil)), show(append(repeat(0, 39), 10000), impl.OK))
	expect(t, show(impl.WeaveNaturals(nil, top)), show(append(repeat(0, 39), 100000), impl.OK))
}
