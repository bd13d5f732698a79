package tests

import (
	"math"
	"math/big"
	"math/rand"
	"runtime"
	"slices"
	"strconv"
	"strings"
	"sync"
	"testing"
	"time"

	"loop.example/g01079/impl"
)

var notWords = [][]int64{{-1}, {10}, {0, 10}, {-1, 0}, {0, 1, math.MinInt64}, {math.MaxInt64}, repeat(0, 401), append(repeat(9, 399), 10), append(repeat(9, 400), -1)}

// digitsOf writes the letters of a word as digits, and nothing for the empty word.
func digitsOf(w []int64) string {
	var text strings.Builder
	for _, letter := range w {
		text.WriteString(strconv.FormatInt(letter, 10))
	}
	return text.String()
}

// wordOf returns the word whose letters are the digits of a text.
func wordOf(digits string) []int64 {
	var w []int64
	for i := range len(digits) {
		w = append(w, int64(digits[i]-'0'))
	}
	return w
}

// allWords returns all words over so many letters up to a length, in shortlex order.
func allWords(letters int64, length int) [][]int64 {
	words := [][]int64{nil}
	for begin := 0; len(words[begin]) < length; begin++ {
		for letter := range letters {
			words = append(words, append(slices.Clone(words[begin]), letter))
		}
	}
	return words
}

// shortWords returns the first words over so many letters, without a gap.
func shortWords(letters int64) [][]int64 {
	if letters < 4 {
		return allWords(letters, 8)
	}
	return allWords(letters, 3)
}

// randomWord returns a word in which parts often come again.
func randomWord(r *rand.Rand, length int) []int64 {
	w := make([]int64, 0, length)
	letters := 1 + r.Int63n(10)
	for len(w) < length {
		if len(w) > 0 && r.Intn(3) > 0 {
			from := r.Intn(len(w))
			w = append(w, w[from:]...)
		}
		w = append(w, r.Int63n(letters))
	}
	return w[:length]
}

func TestPromise4IsWord(t *testing.T) {
	for _, w := range [][]int64{nil, {}, {0}, {9}, {0, 0}, {9, 0, 5}, repeat(9, 400), repeat(0, 400)} {
		if !impl.IsWord(w) {
			t.Errorf("%v is a word", w)
		}
	}
	for _, w := range notWords {
		if impl.IsWord(w) {
			t.Errorf("%v is no word", w)
		}
	}
}

func TestPromise4NoWord(t *testing.T) {
	good := []int64{0, 1}
	for _, bad := range notWords {
		expect(t, show(impl.WordText(bad)), `""`)
		expect(t, show(impl.ReverseWord(bad)), "[] 1")
		expect(t, show(impl.PowerWord(bad, 1)), "[] 1")
		expect(t, show(impl.PeriodOf(bad)), "0 1")
		expect(t, show(impl.BordersOf(bad)), "[] 1")
		expect(t, show(impl.RootOf(bad)), "[] 0 1")
		expect(t, show(impl.RankWord(bad, 10)), "0 1")
		expect(t, show(impl.IsPrefixCode([][]int64{good, bad})), "false")
		expect(t, show(impl.EncodeWith([][]int64{good, bad}, []int64{0})), "[] 1")
		expect(t, show(impl.EncodeWith([][]int64{bad}, nil)), "[] 1")
		expect(t, show(impl.DecodeWith([][]int64{bad, good}, good)), "[] 1")
		expect(t, show(impl.DecodeWith([][]int64{good}, bad)), "[] 1")
		for _, args := range [][3][]int64{{bad, good, good}, {good, bad, good}, {bad, nil, nil}, {nil, bad, nil}, {bad, bad, bad}} {
			expect(t, show(impl.OccurrencesOf(args[0], args[1])), "[] 1")
			expect(t, show(impl.ReplaceAt(args[0], 0, args[1], args[2])), "[] 1")
			expect(t, show(impl.ReplaceFirst(args[0], args[1], args[2])), "[] 1")
		}
		expect(t, show(impl.ReplaceAt(good, 0, good, bad)), "[] 1")
		expect(t, show(impl.ReplaceFirst(good, good, bad)), "[] 1")
	}
}

func TestPromise4WordTexts(t *testing.T) {
	expect(t, show(impl.WordText([]int64{0, 1, 9, 0}), impl.WordText(nil), impl.WordText([]int64{})), `"0190" "-" "-"`)
	expect(t, show(impl.ReadWord("0190")), "[0 1 9 0] true")
	expect(t, show(impl.ReadWord("-")), "[] true")
	for _, w := range append(allWords(10, 3), repeat(9, 400), repeat(0, 399)) {
		if len(w) > 0 {
			expect(t, impl.WordText(w), digitsOf(w))
		}
		expect(t, show(impl.ReadWord(impl.WordText(w))), show(w, true))
	}
	for _, s := range []string{"", " ", "--", "-1", "1-", "0-0", "+1", "1 ", " 1", "1\n", "1,2", "a", "1a", "0x1", "1/", "1:", "\x00", "\xff", "1\xff",
		"\uff11", "1\u0661", strings.Repeat("0", 401), strings.Repeat("1", 1000)} {
		expect(t, show(impl.ReadWord(s)), "[] false")
	}
}

func TestPromise4ReverseWord(t *testing.T) {
	expect(t, show(impl.ReverseWord([]int64{1, 2, 3})), "[3 2 1] 0")
	expect(t, show(impl.ReverseWord(nil)), "[] 0")
	r := rand.New(rand.NewSource(11))
	for length := range impl.MaxWord + 1 {
		w := randomWord(r, length)
		reversed, code := impl.ReverseWord(w)
		expect(t, show(code, len(reversed)), show(impl.OK, length))
		for i, letter := range w {
			if reversed[length-1-i] != letter {
				t.Fatalf("ReverseWord(%v): %v", w, reversed)
			}
		}
	}
}

// placesIn finds all places of a part by comparing texts.
func placesIn(w, part []int64) []int64 {
	text, begin := digitsOf(w), digitsOf(part)
	var places []int64
	for i := range len(text) + 1 {
		if strings.HasPrefix(text[i:], begin) {
			places = append(places, int64(i))
		}
	}
	return places
}

func TestPromise4Occurrences(t *testing.T) {
	expect(t, show(impl.OccurrencesOf([]int64{0, 0, 0}, []int64{0, 0})), "[0 1] 0")
	expect(t, show(impl.OccurrencesOf([]int64{1, 2}, nil)), "[0 1 2] 0")
	expect(t, show(impl.OccurrencesOf(nil, nil)), "[0] 0")
	expect(t, show(impl.OccurrencesOf(nil, []int64{0})), "[] 0")
	expect(t, show(impl.OccurrencesOf([]int64{1}, []int64{1, 1})), "[] 0")
	for _, w := range allWords(2, 7) {
		for _, part := range allWords(2, 4) {
			expect(t, show(impl.OccurrencesOf(w, part)), show(placesIn(w, part), impl.OK))
		}
	}
	long, ends := repeat(7, 400), append(repeat(7, 199), 8)
	expect(t, show(impl.OccurrencesOf(long, long)), "[0] 0")
	expect(t, show(impl.OccurrencesOf(long, ends)), "[] 0")
	expect(t, show(impl.OccurrencesOf(slices.Concat(ends, ends), ends)), "[0 200] 0")
	for _, part := range [][]int64{nil, {7}, repeat(7, 200), repeat(7, 399)} {
		expect(t, show(impl.OccurrencesOf(long, part)), show(placesIn(long, part), impl.OK))
	}
}

func TestPromise4Replace(t *testing.T) {
	expect(t, show(impl.ReplaceAt([]int64{0, 1, 2}, 1, []int64{1}, []int64{9, 9})), "[0 9 9 2] 0")
	expect(t, show(impl.ReplaceFirst([]int64{0, 1, 0}, []int64{0}, []int64{5})), "[5 1 0] 0")
	for _, w := range allWords(2, 5) {
		for _, part := range allWords(2, 3) {
			places := placesIn(w, part)
			for _, by := range [][]int64{nil, {3}, {3, 4, 5}} {
				for at := int64(-1); at <= int64(len(w))+1; at++ {
					want := "[] 3"
					if at < 0 || at > int64(len(w)) {
						want = "[] 2"
					} else if slices.Contains(places, at) {
						text := digitsOf(w)
						want = show(wordOf(text[:at]+digitsOf(by)+text[at+int64(len(part)):]), impl.OK)
					}
					expect(t, show(impl.ReplaceAt(w, at, part, by)), want)
				}
				first := "[] 3"
				if len(places) > 0 {
					first = show(impl.ReplaceAt(w, places[0], part, by))
				}
				expect(t, show(impl.ReplaceFirst(w, part, by)), first)
			}
		}
	}
	for _, at := range []int64{math.MinInt64, -1, 3, math.MaxInt64} {
		expect(t, show(impl.ReplaceAt([]int64{0, 1}, at, nil, nil)), "[] 2")
	}
}

func TestPromise4ReplaceLimits(t *testing.T) {
	w := append(repeat(0, 396), 1)
	for at, want := range map[int64]string{0: show(slices.Concat([]int64{2, 2, 2}, w), impl.OK), 397: show(slices.Concat(w, []int64{2, 2, 2}), impl.OK)} {
		expect(t, show(impl.ReplaceAt(w, at, nil, []int64{2, 2, 2})), want)
		expect(t, show(impl.ReplaceAt(w, at, nil, []int64{2, 2, 2, 2})), "[] 5")
	}
	expect(t, show(impl.ReplaceFirst(w, []int64{1}, repeat(2, 4))), show(append(repeat(0, 396), repeat(2, 4)...), impl.OK))
	expect(t, show(impl.ReplaceFirst(w, []int64{1}, repeat(2, 5))), "[] 5")
	expect(t, show(impl.ReplaceFirst(w, w, repeat(9, 400))), show(repeat(9, 400), impl.OK))
	expect(t, show(impl.ReplaceFirst(repeat(9, 400), repeat(9, 400), nil)), "[] 0")
	expect(t, show(impl.ReplaceFirst(repeat(9, 400), nil, nil)), show(repeat(9, 400), impl.OK))
	expect(t, show(impl.ReplaceFirst(repeat(9, 400), nil, []int64{9})), "[] 5")
}

func TestPromise4PowerWord(t *testing.T) {
	expect(t, show(impl.PowerWord([]int64{0, 1}, 3)), "[0 1 0 1 0 1] 0")
	expect(t, show(impl.PowerWord([]int64{0, 1}, 0)), "[] 0")
	expect(t, show(impl.PowerWord(nil, impl.MaxWord)), "[] 0")
	for length := 1; length <= impl.MaxWord; length++ {
		w := repeat(int64(length%10), length)
		most := int64(impl.MaxWord / length)
		expect(t, show(impl.PowerWord(w, most)), show(repeat(int64(length%10), length*int(most)), impl.OK))
		if most < impl.MaxWord {
			expect(t, show(impl.PowerWord(w, most+1)), "[] 5")
			expect(t, show(impl.PowerWord(w, impl.MaxWord)), "[] 5")
		}
	}
	for _, n := range []int64{-1, impl.MaxWord + 1, math.MinInt64, math.MaxInt64} {
		expect(t, show(impl.PowerWord([]int64{1}, n)), "[] 2")
		expect(t, show(impl.PowerWord(nil, n)), "[] 2")
	}
}

// checkPeriods compares periods, borders and roots with what the document says of them, letter by letter.
func checkPeriods(t *testing.T, w []int64) {
	t.Helper()
	text := digitsOf(w)
	period, root := len(text), len(text)
	var borders []int64
	for p := len(text); p >= 1; p-- {
		if text[p:] == text[:len(text)-p] {
			period = p
			borders = append(borders, int64(len(text)-p))
		}
		if len(text)%p == 0 && strings.Repeat(text[:p], len(text)/p) == text {
			root = p
		}
	}
	expect(t, show(impl.PeriodOf(w)), show(period, impl.OK))
	expect(t, show(impl.BordersOf(w)), show(borders, impl.OK))
	expect(t, show(impl.RootOf(w)), show(w[:root], len(w)/root, impl.OK))
	expect(t, show(impl.PowerWord(w[:root], int64(len(w)/root))), show(w, impl.OK))
	expect(t, show(int64(len(w))-borders[len(borders)-1]), show(period))
}

func TestPromise4Periods(t *testing.T) {
	five := []int64{0, 1, 0, 1, 0}
	expect(t, show(impl.PeriodOf(five)), "2 0")
	expect(t, show(impl.BordersOf(five)), "[0 1 3] 0")
	expect(t, show(impl.RootOf(five)), "[0 1 0 1 0] 1 0")
	expect(t, show(impl.RootOf([]int64{0, 1, 0, 1})), "[0 1] 2 0")
	expect(t, show(impl.PeriodOf(nil)), "0 3")
	expect(t, show(impl.BordersOf(nil)), "[] 0")
	expect(t, show(impl.RootOf(nil)), "[] 0 3")
	for _, words := range [][][]int64{allWords(2, 12), allWords(3, 7)} {
		for _, w := range words[1:] {
			checkPeriods(t, w)
		}
	}
	r := rand.New(rand.NewSource(12))
	for range 300 {
		w := randomWord(r, 1+r.Intn(impl.MaxWord))
		checkPeriods(t, w)
		power, code := impl.PowerWord(w, 1+r.Int63n(int64(impl.MaxWord/len(w))))
		expect(t, show(code), "0")
		checkPeriods(t, power)
		checkPeriods(t, power[:len(power)-len(w)/2])
	}
	for _, w := range [][]int64{repeat(4, 400), repeat(4, 399), append(repeat(4, 399), 5), append([]int64{5}, repeat(4, 399)...)} {
		checkPeriods(t, w)
	}
}

func TestPromise4CompareShortlex(t *testing.T) {
	expect(t, show(impl.CompareShortlex([]int64{1}, []int64{0, 0}), impl.CompareShortlex([]int64{1}, []int64{0}), impl.CompareShortlex(nil, []int64{})), "-1 1 0")
	ordered := append(allWords(3, 3), []int64{math.MinInt64, 5, 5, 5}, []int64{-1, 9, 9, 9}, []int64{10, 0, 0, 0}, []int64{math.MaxInt64, 0, 0, 0}, repeat(0, 400), repeat(-7, 401))
	expectOrder(t, ordered, impl.CompareShortlex)
}

func TestPromise4Ranks(t *testing.T) {
	expect(t, show(impl.RankWord([]int64{0}, 2)), "1 0")
	expect(t, show(impl.RankWord([]int64{1}, 2)), "2 0")
	expect(t, show(impl.RankWord([]int64{0, 0}, 2)), "3 0")
	for letters := int64(1); letters <= impl.MaxLetter+1; letters++ {
		for rank, w := range shortWords(letters) {
			expect(t, show(impl.RankWord(w, letters)), show(rank, impl.OK))
			expect(t, show(impl.WordAt(int64(rank), letters)), show(w, impl.OK))
		}
	}
	r := rand.New(rand.NewSource(13))
	for letters := int64(2); letters <= impl.MaxLetter+1; letters++ {
		for range 100 {
			rank := r.Int63n(impl.MaxValue)
			w, code := impl.WordAt(rank, letters)
			expect(t, show(code, impl.IsWord(w)), "0 true")
			expect(t, show(impl.RankWord(w, letters)), show(rank, impl.OK))
			next, _ := impl.WordAt(rank+1, letters)
			expect(t, show(impl.CompareShortlex(w, next)), "-1")
		}
	}
}

func TestPromise4RankLimits(t *testing.T) {
	for letters := int64(2); letters <= impl.MaxLetter+1; letters++ {
		last, code := impl.WordAt(impl.MaxValue, letters)
		expect(t, show(code), "0")
		expect(t, show(impl.RankWord(last, letters)), show(impl.MaxValue, impl.OK))
		beyond := wordWithNumber(big.NewInt(impl.MaxValue+1), letters)
		expect(t, show(impl.RankWord(beyond, letters)), "0 5")
		expect(t, show(impl.RankWord(repeat(0, 400), letters)), "0 5")
		expect(t, show(impl.RankWord(append(repeat(0, 399), letters-1), letters)), "0 5")
	}
	expect(t, show(impl.RankWord(repeat(0, 400), 1)), "400 0")
	expect(t, show(impl.WordAt(400, 1)), show(repeat(0, 400), impl.OK))
	expect(t, show(impl.WordAt(401, 1)), "[] 5")
	expect(t, show(impl.WordAt(impl.MaxValue, 1)), "[] 5")
	for _, letters := range []int64{0, -1, 11, math.MinInt64, math.MaxInt64} {
		expect(t, show(impl.RankWord(nil, letters)), "0 2")
		expect(t, show(impl.RankWord([]int64{0}, letters)), "0 2")
		expect(t, show(impl.WordAt(0, letters)), "[] 2")
		expect(t, show(impl.WordAt(1, letters)), "[] 2")
	}
	for letters := int64(1); letters <= impl.MaxLetter; letters++ {
		expect(t, show(impl.RankWord([]int64{0, letters, 0}, letters)), "0 2")
		expect(t, show(impl.RankWord(append(repeat(0, 399), 9), letters)), "0 2")
	}
	for _, rank := range []int64{-1, impl.MaxValue + 1, math.MinInt64, math.MaxInt64} {
		expect(t, show(impl.WordAt(rank, 2)), "[] 2")
		expect(t, show(impl.WordAt(rank, 1)), "[] 2")
	}
}

// isCode compares each two words of a list as texts.
func isCode(list [][]int64) bool {
	for i, a := range list {
		for k, b := range list {
			if len(a) == 0 || i != k && strings.HasPrefix(digitsOf(a), digitsOf(b)) {
				return false
			}
		}
	}
	return len(list) > 0 && len(list) <= impl.MaxCodes
}

func TestPromise4IsPrefixCode(t *testing.T) {
	for _, list := range [][][]int64{{{0}}, {{0}, {1, 0}, {1, 1}}, {{1, 1}, {0}, {1, 0}}, {{0, 0}, {0, 1}}, {repeat(9, 400)}, {append(repeat(9, 399), 8), repeat(9, 400)}, manyWords(40)} {
		if !impl.IsPrefixCode(list) {
			t.Errorf("%v is a prefix code", list)
		}
	}
	for _, list := range [][][]int64{nil, {}, {nil}, {{}, {}}, {{0}, {}}, {{}, {0}}, {{0}, {0}}, {{0}, {1}, {0}}, {{0}, {0, 1}}, {{0, 1}, {0}},
		{{0}, {1}, {2}, {0, 0, 0}}, {{5, 5}, {1}, {2}, {5}}, {{0, 1, 2, 3}, {0, 2}, {0, 1, 2}}, {repeat(9, 400), repeat(9, 399)}, {{10}}, {{0}, {-1}}, {repeat(9, 401)}, manyWords(41)} {
		if impl.IsPrefixCode(list) {
			t.Errorf("%v is no prefix code", list)
		}
		want := "[] 7"
		if slices.ContainsFunc(list, func(w []int64) bool { return !impl.IsWord(w) }) {
			want = "[] 1"
		}
		expect(t, show(impl.EncodeWith(list, nil)), want)
		expect(t, show(impl.DecodeWith(list, nil)), want)
	}
	words := allWords(2, 3)
	for _, a := range words {
		for _, b := range words {
			for _, c := range words {
				list := [][]int64{a, b, c}
				if impl.IsPrefixCode(list) != isCode(list) {
					t.Errorf("IsPrefixCode(%v): %v", list, impl.IsPrefixCode(list))
				}
			}
		}
	}
}

// manyWords returns so many words of two letters, none of which is equal to another one.
func manyWords(many int) [][]int64 {
	list := make([][]int64, many)
	for i := range list {
		list[i] = []int64{int64(i*7%many) / 10, int64(i*7%many) % 10}
	}
	return list
}

// randomCode returns a prefix code with words of many lengths in any order.
func randomCode(r *rand.Rand) [][]int64 {
	list := [][]int64{nil}
	letters := 2 + r.Intn(4)
	for range 1 + r.Intn(8) {
		if len(list)+letters-1 > impl.MaxCodes {
			break
		}
		i := r.Intn(len(list))
		stem := list[i]
		list = slices.Delete(list, i, i+1)
		for letter := range letters {
			list = append(list, append(slices.Clone(stem), int64(letter)))
		}
	}
	r.Shuffle(len(list), func(i, k int) { list[i], list[k] = list[k], list[i] })
	return list[:1+r.Intn(len(list))]
}

func TestPromise4Codes(t *testing.T) {
	list := [][]int64{{0}, {1, 0}, {1, 1}}
	expect(t, show(impl.EncodeWith(list, []int64{2, 0, 1})), "[1 1 0 1 0] 0")
	expect(t, show(impl.DecodeWith(list, []int64{1, 1, 0, 1, 0})), "[2 0 1] 0")
	expect(t, show(impl.EncodeWith(list, nil)), "[] 0")
	expect(t, show(impl.DecodeWith(list, nil)), "[] 0")
	// The last letter is only the beginning of a word, or nothing begins with a letter in the middle or at the start.
	for _, w := range [][]int64{{0, 1}, {1}, {2}, {0, 2, 0}, {1, 1, 5}, {1, 2}, append(repeat(0, 399), 1), append(repeat(0, 399), 2)} {
		expect(t, show(impl.DecodeWith(list, w)), "[] 3")
	}
	r := rand.New(rand.NewSource(14))
	for range 300 {
		code := randomCode(r)
		expect(t, show(impl.IsPrefixCode(code), isCode(code)), "true true")
		var numbers, w []int64
		for range r.Intn(60) {
			n := r.Intn(len(code))
			numbers = append(numbers, int64(n))
			w = append(w, code[n]...)
		}
		if len(w) > impl.MaxWord {
			expect(t, show(impl.EncodeWith(code, numbers)), "[] 5")
			continue
		}
		expect(t, show(impl.EncodeWith(code, numbers)), show(w, impl.OK))
		expect(t, show(impl.DecodeWith(code, w)), show(numbers, impl.OK))
	}
}

// Every short word is either the code of some numbers, which are found, or of none.
func TestPromise4CodesOfAllWords(t *testing.T) {
	for _, code := range [][][]int64{{{0}, {1}}, {{1}, {0}}, {{0, 0}, {0, 1}, {1}}, {{1, 0}}, {{0, 1, 0}, {1, 1}, {0, 0}}, {{0}, {1, 1, 1}}} {
		made := map[string][]int64{}
		for _, numbers := range allWords(int64(len(code)), 8) {
			w, _ := impl.EncodeWith(code, numbers)
			made[digitsOf(w)] = numbers
		}
		for _, w := range allWords(2, 8) {
			want := "[] 3"
			if numbers, ok := made[digitsOf(w)]; ok {
				want = show(numbers, impl.OK)
			}
			expect(t, show(impl.DecodeWith(code, w)), want)
		}
	}
}

func TestPromise4CodeLimits(t *testing.T) {
	list := [][]int64{{0}, {1, 0}, {1, 1}}
	for _, numbers := range [][]int64{repeat(0, 400), repeat(2, 200), append(repeat(1, 199), 0, 0)} {
		w, code := impl.EncodeWith(list, numbers)
		expect(t, show(len(w), code), "400 0")
		expect(t, show(impl.DecodeWith(list, w)), show(numbers, impl.OK))
		expect(t, show(impl.EncodeWith(list, append(slices.Clone(numbers), 0))), "[] 5")
	}
	expect(t, show(impl.EncodeWith(list, append(repeat(1, 199), 0, 1))), "[] 5")
	expect(t, show(impl.EncodeWith([][]int64{repeat(3, 400)}, []int64{0})), show(repeat(3, 400), impl.OK))
	expect(t, show(impl.EncodeWith([][]int64{repeat(3, 400)}, []int64{0, 0})), "[] 5")
	expect(t, show(impl.DecodeWith([][]int64{repeat(3, 400)}, repeat(3, 400))), "[0] 0")
	expect(t, show(impl.DecodeWith([][]int64{repeat(3, 400)}, repeat(3, 399))), "[] 3")
	for _, number := range []int64{-1, 3, math.MinInt64, math.MaxInt64} {
		expect(t, show(impl.EncodeWith(list, []int64{0, number})), "[] 2")
		expect(t, show(impl.EncodeWith(list, append(repeat(2, 500), number))), "[] 2")
	}
	forty := manyWords(40)
	for i, w := range forty {
		expect(t, show(impl.EncodeWith(forty, []int64{int64(i)})), show(w, impl.OK))
		expect(t, show(impl.DecodeWith(forty, w)), show([]int{i}, impl.OK))
	}
}

func TestPromise4OrderOfErrors(t *testing.T) {
	noWord, noCode := []int64{10}, [][]int64{{0}, {0, 1}}
	expect(t, show(impl.ReplaceAt([]int64{0}, 5, noWord, nil)), "[] 1")
	expect(t, show(impl.ReplaceAt([]int64{0}, 5, []int64{1}, repeat(0, 400))), "[] 2")
	expect(t, show(impl.ReplaceAt([]int64{0}, 1, []int64{1}, repeat(0, 400))), "[] 3")
	expect(t, show(impl.ReplaceAt(repeat(0, 400), 0, []int64{1}, repeat(0, 400))), "[] 3")
	expect(t, show(impl.ReplaceFirst([]int64{0}, []int64{1}, repeat(0, 400))), "[] 3")
	expect(t, show(impl.ReplaceFirst([]int64{0}, []int64{1}, noWord)), "[] 1")
	expect(t, show(impl.PowerWord(noWord, -1)), "[] 1")
	expect(t, show(impl.PowerWord(repeat(0, 400), 401)), "[] 2")
	expect(t, show(impl.RankWord(noWord, 0)), "0 1")
	expect(t, show(impl.RankWord(repeat(9, 400), 9)), "0 2")
	expect(t, show(impl.RankWord(repeat(9, 400), 11)), "0 2")
	expect(t, show(impl.WordAt(impl.MaxValue+1, 1)), "[] 2")
	expect(t, show(impl.EncodeWith(append(noCode, noWord), []int64{7})), "[] 1")
	expect(t, show(impl.EncodeWith(append(manyWords(41), noWord), []int64{7})), "[] 1")
	expect(t, show(impl.EncodeWith(noCode, []int64{7})), "[] 7")
	expect(t, show(impl.EncodeWith([][]int64{{0}}, append(repeat(0, 401), 1))), "[] 2")
	expect(t, show(impl.DecodeWith(noCode, noWord)), "[] 1")
	expect(t, show(impl.DecodeWith(nil, noWord)), "[] 1")
	expect(t, show(impl.DecodeWith(noCode, []int64{5})), "[] 7")
	expect(t, show(impl.DecodeWith(nil, []int64{5})), "[] 7")
}

// Decoding works beside other calls, and leaves nothing running behind.
func TestPromise1DecodingSideBySide(t *testing.T) {
	before := runtime.NumGoroutine()
	list := [][]int64{{0}, {1, 0}, {1, 1}}
	var all sync.WaitGroup
	for i := range 50 {
		all.Go(func() {
			w := append(repeat(0, 300+i), 1, 1, 1)
			for range 20 {
				expect(t, show(impl.DecodeWith(list, w)), "[] 3")
				expect(t, show(impl.DecodeWith(list, w[:len(w)-1])), show(append(repeat(0, 300+i), 2), impl.OK))
			}
		})
	}
	all.Wait()
	// A goroutine that has done its work may need a moment to be gone.
	for range 100 {
		if runtime.NumGoroutine() <= before {
			return
		}
		time.Sleep(10 * time.Millisecond)
	}
	t.Errorf("%d goroutines instead of %d", runtime.NumGoroutine(), before)
}
