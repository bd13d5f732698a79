package tests

import (
	"math"
	"math/rand"
	"slices"
	"strings"
	"testing"

	"loop.example/g01079/impl"
)

const (
	// mostLetters is the greatest number of letters of a word, mostFound that of words that are found, and of overlaps, and
	// mostSteps that of the steps of a derivation.
	mostLetters = 400
	mostFound   = 300
	mostSteps   = 100
)

func rewritesOf(t *testing.T, s string) []impl.Rewrite {
	t.Helper()
	return mustRead(t, impl.ReadRewrites, s)
}

func rewrite(from, to []int64) impl.Rewrite { return impl.Rewrite{From: from, To: to} }

// badSides returns pairs of lists that are no sides of any rule.
func badSides() [][2][]int64 {
	var all [][2][]int64
	for _, bad := range notWords {
		all = append(all, [2][]int64{bad, {0}}, [2][]int64{{0}, bad}, [2][]int64{bad, bad}, [2][]int64{{9}, bad})
	}
	return all
}

// badRewrites returns lists that are no rewriting rules, each for another reason.
func badRewrites() [][]impl.Rewrite {
	good := rewrite([]int64{1, 0}, []int64{0, 1})
	all := [][]impl.Rewrite{nil, {}, slices.Repeat([]impl.Rewrite{good}, 61), slices.Repeat([]impl.Rewrite{good}, 5000), {{}}, {good, {}}, make([]impl.Rewrite, 60), append(slices.Repeat([]impl.Rewrite{good}, 60), impl.Rewrite{})}
	sides := append(badSides(), [2][]int64{nil, {0}}, [2][]int64{{}, {}}, [2][]int64{nil, repeat(9, 400)})
	for _, s := range sides {
		bad := rewrite(s[0], s[1])
		all = append(all, []impl.Rewrite{bad}, []impl.Rewrite{good, bad}, []impl.Rewrite{bad, good}, append(slices.Repeat([]impl.Rewrite{good}, 59), bad))
	}
	return all
}

// someRewriteTexts are those of rules that change words in different ways.
var someRewriteTexts = []string{"10>01", "01>2 12>0", "0>0", "0>-", "0>00", "0>1 1>0", "00>0 0>00", "1>- 0>1 11>2", "00>1 0>1 0>1", "210>9 0>21"}

func sampleRewrites() [][]impl.Rewrite {
	all := append(badRewrites()[:16], []impl.Rewrite{rewrite(repeat(0, 400), nil)}, []impl.Rewrite{rewrite([]int64{0}, repeat(9, 400)), rewrite(repeat(0, 200), []int64{1})}, slices.Repeat([]impl.Rewrite{rewrite([]int64{1}, []int64{0})}, 60))
	for _, s := range someRewriteTexts {
		list, _ := impl.ReadRewrites(s)
		all = append(all, list)
	}
	return all
}

// fewRewrites returns enough of them where a function has many parameters.
func fewRewrites() [][]impl.Rewrite {
	all := [][]impl.Rewrite{nil, {}, {{}}, {rewrite([]int64{0}, []int64{10})}, {rewrite([]int64{1}, repeat(0, 401))}}
	for _, s := range []string{"0>1 1>0", "0>-", "0>00 1>0", "10>01 00>11"} {
		list, _ := impl.ReadRewrites(s)
		all = append(all, list)
	}
	return all
}

// someRewrites returns rules over so many letters, whose From has at most so many letters and whose To at most one more.
func someRewrites(random *rand.Rand, letters, length int) []impl.Rewrite {
	var list []impl.Rewrite
	for range 1 + random.Intn(4) {
		from := someTagWord(random, letters, 1+random.Intn(length))
		list = append(list, rewrite(from, someTagWord(random, letters, random.Intn(length+2))))
	}
	return list
}

// forSomeRewrites checks many lists of rules with a word, which has at least so many letters.
func forSomeRewrites(seed int64, many, least int, check func(random *rand.Rand, list []impl.Rewrite, w []int64)) {
	random := rand.New(rand.NewSource(seed))
	for range many {
		letters := 1 + random.Intn(3)
		check(random, someRewrites(random, letters, 3), someTagWord(random, letters, least+random.Intn(9)))
	}
}

// plainStep is a step with the letters of the word behind it as digits; there may be too many of them for a word.
type plainStep struct {
	rule, at int64
	digits   string
}

func (s plainStep) isLong() bool { return len(s.digits) > mostLetters }

func (s plainStep) word() []int64 { return wordOf(s.digits) }

func (s plainStep) numbers() []int64 { return []int64{s.rule, s.at} }

// plainSteps tries each rule at each index, in order.
func plainSteps(list []impl.Rewrite, w []int64) []plainStep {
	var steps []plainStep
	digits := digitsOf(w)
	for rule, r := range list {
		from, to := digitsOf(r.From), digitsOf(r.To)
		for at := range digits {
			if strings.HasPrefix(digits[at:], from) {
				steps = append(steps, plainStep{int64(rule), int64(at), digits[:at] + to + digits[at+len(from):]})
			}
		}
	}
	return steps
}

// plainSuccessors returns the first step to each word that is not too long.
func plainSuccessors(list []impl.Rewrite, w []int64) []plainStep {
	var first []plainStep
	seen := map[string]bool{}
	for _, s := range plainSteps(list, w) {
		if !s.isLong() && !seen[s.digits] {
			seen[s.digits] = true
			first = append(first, s)
		}
	}
	return first
}

func wordsBehind(steps []plainStep) [][]int64 {
	var words [][]int64
	for _, s := range steps {
		words = append(words, s.word())
	}
	return words
}

func TestPromise11Constants(t *testing.T) {
	expect(t, show(impl.MaxRewrites, impl.MaxFound, impl.MaxDerivation), "60 300 100")
}

func TestPromise11Examples(t *testing.T) {
	list := rewritesOf(t, "10>01")
	expect(t, show(list), show([]impl.Rewrite{rewrite([]int64{1, 0}, []int64{0, 1})}))
	expect(t, show(impl.SuccessorsOf(list, []int64{1, 1, 0})), "[[1 0 1]] 0")
	expect(t, show(impl.SuccessorsOf(list, []int64{1, 0, 1})), "[[0 1 1]] 0")
	expect(t, show(impl.IsNormalWord(list, []int64{0, 1, 1}), impl.IsNormalWord(list, []int64{1, 1, 0})), "true false")
	expect(t, show(impl.OverlapsOf(rewritesOf(t, "01>2 12>0"))), "[[[0 1 2] [2 2] [0 0]]] 0")
}

func TestPromise11ValidRewrites(t *testing.T) {
	for i, list := range badRewrites() {
		if impl.ValidRewrites(list) {
			t.Errorf("the rules %d are valid: %v", i, list)
		}
	}
	for _, many := range []int{0, 1, 2, 59, 60, 61, 62} {
		list := slices.Repeat([]impl.Rewrite{rewrite([]int64{1}, nil)}, many)
		expect(t, show(many, impl.ValidRewrites(list)), show(many, many >= 1 && many <= 60))
	}
	for _, length := range []int{0, 1, 2, 399, 400, 401} {
		w := repeat(9, length)
		expect(t, show(length, impl.ValidRewrites([]impl.Rewrite{rewrite(w, nil)})), show(length, length >= 1 && length <= 400))
		expect(t, show(length, impl.ValidRewrites([]impl.Rewrite{rewrite([]int64{0}, w)})), show(length, length <= 400))
	}
	for letter := int64(-1); letter <= 10; letter++ {
		isLetter := letter >= 0 && letter <= 9
		expect(t, show(letter, impl.ValidRewrites([]impl.Rewrite{rewrite([]int64{letter}, nil)}), impl.ValidRewrites([]impl.Rewrite{rewrite([]int64{0}, []int64{letter})})), show(letter, isLetter, isLetter))
	}
	whole := rewrite(repeat(9, 400), repeat(9, 400))
	expect(t, show(impl.ValidRewrites(slices.Repeat([]impl.Rewrite{whole}, 60))), "true")
}

// plainSidesText writes both sides of a rule as the specification says.
func plainSidesText(from, to []int64) string {
	texts := []string{digitsOf(from), digitsOf(to)}
	for i, text := range texts {
		if text == "" {
			texts[i] = "-"
		}
	}
	return strings.Join(texts, ">")
}

func plainRewritesText(list []impl.Rewrite) string {
	var texts []string
	for _, r := range list {
		texts = append(texts, plainSidesText(r.From, r.To))
	}
	return strings.Join(texts, " ")
}

// hasDigits reports whether all rules have letters of one digit, so that their text has no other meaning.
func hasDigits(list []impl.Rewrite) bool {
	return !slices.ContainsFunc(list, func(r impl.Rewrite) bool {
		return slices.ContainsFunc(slices.Concat(r.From, r.To), func(letter int64) bool { return letter > 9 })
	})
}

func TestPromise11RewriteTexts(t *testing.T) {
	check := func(list []impl.Rewrite) {
		t.Helper()
		text := impl.RewritesText(list)
		expect(t, text, plainRewritesText(list))
		back, ok := impl.ReadRewrites(text)
		expect(t, show(back, ok), show(list, true))
	}
	forSomeRewrites(200, 300, 0, func(_ *rand.Rand, list []impl.Rewrite, _ []int64) { check(list) })
	whole := rewrite(repeat(9, 400), repeat(9, 400))
	for _, list := range [][]impl.Rewrite{{whole}, slices.Repeat([]impl.Rewrite{whole}, 60), {rewrite([]int64{0}, nil)}, {rewrite([]int64{0}, []int64{}), rewrite([]int64{0, 1, 2, 3, 4, 5, 6, 7, 8, 9}, []int64{0})}} {
		check(list)
	}
	for i, bad := range badRewrites() {
		expect(t, show(i, impl.RewritesText(bad)), show(i, ""))
		if hasDigits(bad) {
			list, ok := impl.ReadRewrites(plainRewritesText(bad))
			expect(t, show(i, list, ok), show(i, []impl.Rewrite{}, false))
		}
	}
	for _, s := range someRewriteTexts {
		list, ok := impl.ReadRewrites(s)
		expect(t, show(impl.RewritesText(list), ok), show(s, true))
	}
}

// badRuleTexts are texts of no rules of either kind.
func badRuleTexts() []string {
	bad := []string{
		"", " ", "  ", "-", "--", ">", ">>", "> ", " >", "1", "10", "1>", ">1", "->", ">-", "10>01 ", " 10>01", " 10>01 ", "10>01  10>01", "10 >01", "10> 01", "1 0>01", "1>0 1", "1>0 >", "1>0 -", "1>0 1>", "1>0 >1",
		"1>>0", "1>0>", ">1>0", "1>0>1", "1>-0", "1>0-", "1>--", "1->0", "-1>0", "--1>0", "+1>0", "1>+0", "1>->", "1>0\n", "1>0\t2>1", "1>0\n2>1", "1>0,2>1", "1>0;2>1", "1=>0", "1<0", "1:0", "1-0", "1,0>0", "1>0,1", "1.0>0", "1>0.1", ".1>0", "1.>0", "1>.0", ".", "..", "1>..", "1>.",
		"a>0", "1>a", "1>0a", "A>0", "0x1>0", "1e0>0", "[1]>0", "1>[0]", "1>0\x00", "\x00>0", "\xff>0", "1>\xff", "\uff11>0", "1>\uff10", "\u2212>0", "1\uff1e0", "1\u20101>0", "\u00a01>0",
	}
	return append(bad, strings.Repeat("0", 401)+">0", "0>"+strings.Repeat("0", 401), strings.Repeat("1>0 ", 60)+"1>0", strings.Repeat("1>0 ", 60), strings.Repeat(" ", 100000), strings.Repeat(">", 100000), strings.Repeat("-", 100000), strings.Repeat(".", 100000),
		strings.Repeat("1>0 ", 100000)+"1>0", strings.Repeat("1", 100000)+">0", "0>"+strings.Repeat("1", 100000), strings.Repeat("1>", 100000)+"0")
}

func TestPromise11OtherRewriteTexts(t *testing.T) {
	for _, s := range append(badRuleTexts(), "->1", "->-", "1>0 ->1", "->0 1>0", "1>0.", "1>-.", "1>0. 2>1", "1>0 2>1.") {
		list, ok := impl.ReadRewrites(s)
		expect(t, show(len(s), list, ok), show(len(s), []impl.Rewrite{}, false))
	}
	list, ok := impl.ReadRewrites(strings.Repeat("1>0 ", 59) + "1>-")
	expect(t, show(len(list), list[59], ok), "60 {[1] []} true")
	expect(t, show(impl.ReadRewrites(strings.Repeat("0", 400)+">"+strings.Repeat("9", 400))), show([]impl.Rewrite{rewrite(repeat(0, 400), repeat(9, 400))}, true))
}

// plainApplied returns what comes of a step with each rule at each index at which there is one.
func plainApplied(list []impl.Rewrite, w []int64) map[[2]int64]string {
	results := map[[2]int64]string{}
	for _, s := range plainSteps(list, w) {
		if results[[2]int64{s.rule, s.at}] = show(s.word(), impl.OK); s.isLong() {
			results[[2]int64{s.rule, s.at}] = "[] 5"
		}
	}
	return results
}

func TestPromise11ApplyAsByModel(t *testing.T) {
	t.Parallel()
	check := func(_ *rand.Rand, list []impl.Rewrite, w []int64) {
		rules, letters := int64(len(list)), int64(len(w))
		results := plainApplied(list, w)
		for rule := int64(-1); rule <= rules; rule++ {
			for at := int64(-1); at <= letters+1; at++ {
				want, has := results[[2]int64{rule, at}]
				switch {
				case rule < 0 || rule == rules || at < 0 || at > letters:
					want = "[] 2"
				case !has:
					want = "[] 3"
				}
				expect(t, show(rule, at, show(impl.ApplyRewrite(list, w, rule, at))), show(rule, at, want))
			}
		}
	}
	forSomeRewrites(201, 200, 0, check)
	forSomeRewrites(202, 10, 392, check)
}

func TestPromise11Apply(t *testing.T) {
	list := rewritesOf(t, "10>01 0>- 1>222 01>1")
	w := []int64{1, 1, 0}
	for _, c := range []struct {
		rule, at int64
		want     string
	}{
		{0, 1, "[1 0 1] 0"}, {0, 0, "[] 3"}, {0, 2, "[] 3"}, {0, 3, "[] 3"}, {0, 4, "[] 2"}, {0, -1, "[] 2"}, {1, 2, "[1 1] 0"}, {1, 3, "[] 3"}, {1, 4, "[] 2"}, {2, 0, "[2 2 2 1 0] 0"}, {2, 1, "[1 2 2 2 0] 0"}, {2, 2, "[] 3"}, {3, 0, "[] 3"}, {3, 2, "[] 3"},
		{4, 0, "[] 2"}, {4, -1, "[] 2"}, {-1, 0, "[] 2"}, {-1, 9, "[] 2"}, {math.MinInt64, 0, "[] 2"}, {math.MaxInt64, 0, "[] 2"}, {0, math.MinInt64, "[] 2"}, {0, math.MaxInt64, "[] 2"}, {math.MaxInt64, math.MaxInt64, "[] 2"}, {math.MinInt64, math.MinInt64, "[] 2"},
	} {
		expect(t, show(c.rule, c.at, show(impl.ApplyRewrite(list, w, c.rule, c.at))), show(c.rule, c.at, c.want))
	}
	for _, rule := range []int64{0, 1, 2, 3} {
		expect(t, show(impl.ApplyRewrite(list, nil, rule, 0)), "[] 3")
		expect(t, show(impl.ApplyRewrite(list, nil, rule, 1)), "[] 2")
	}
	// At the very end of the longest words, and with the longest From.
	long := append(repeat(2, 399), 0)
	expect(t, show(impl.ApplyRewrite(list, long, 1, 399)), show(repeat(2, 399), impl.OK))
	expect(t, show(impl.ApplyRewrite(list, long, 1, 400)), "[] 3")
	expect(t, show(impl.ApplyRewrite(list, long, 1, 401)), "[] 2")
	whole := []impl.Rewrite{rewrite(repeat(5, 400), nil), rewrite(repeat(5, 400), repeat(6, 400))}
	expect(t, show(impl.ApplyRewrite(whole, repeat(5, 400), 0, 0)), "[] 0")
	expect(t, show(impl.ApplyRewrite(whole, repeat(5, 400), 1, 0)), show(repeat(6, 400), impl.OK))
	expect(t, show(impl.ApplyRewrite(whole, repeat(5, 399), 1, 0)), "[] 3")
	expect(t, show(impl.ApplyRewrite(whole, repeat(5, 400), 1, 1)), "[] 3")
}

// A word may get MaxWord letters, but no more, whatever the other side has.
func TestPromise11LongWords(t *testing.T) {
	for from := 1; from <= 4; from++ {
		for more := 1; more <= 4; more++ {
			list := []impl.Rewrite{rewrite(repeat(1, from), repeat(2, from+more))}
			fits, long := slices.Concat(repeat(0, 400-from-more), repeat(1, from)), slices.Concat(repeat(0, 401-from-more), repeat(1, from))
			next := slices.Concat(repeat(0, 400-from-more), repeat(2, from+more))
			at := int64(len(fits) - from)
			expect(t, show(impl.ApplyRewrite(list, fits, 0, at)), show(next, impl.OK))
			expect(t, show(impl.ApplyRewrite(list, long, 0, at+1)), "[] 5")
			expect(t, show(impl.ApplyRewrite(list, long, 0, at)), "[] 3")
			expect(t, show(impl.SuccessorsOf(list, fits)), show([][]int64{next}, impl.OK))
			expect(t, show(impl.SuccessorsOf(list, long)), "[] 0")
			expect(t, show(impl.IsNormalWord(list, fits), impl.IsNormalWord(list, long), impl.IsNormalWord(list, next)), "false false true")
			expect(t, show(impl.CheckDerivation(list, fits, [][]int64{{0, at}})), show(next, impl.OK))
			expect(t, show(impl.CheckDerivation(list, long, [][]int64{{0, at + 1}})), "[] 7")
		}
	}
	// Of several steps, those to longer words are left out.
	list := rewritesOf(t, "1>00 1>2 2>11 1>-")
	w := slices.Concat([]int64{1}, repeat(0, 398), []int64{2})
	expect(t, show(impl.SuccessorsOf(list, w)), show([][]int64{slices.Concat([]int64{2}, w[1:]), w[1:]}, impl.OK))
}

func TestPromise11SuccessorsAsByModel(t *testing.T) {
	check := func(_ *rand.Rand, list []impl.Rewrite, w []int64) {
		expect(t, show(impl.SuccessorsOf(list, w)), show(wordsBehind(plainSuccessors(list, w)), impl.OK))
		expect(t, show(w, impl.IsNormalWord(list, w)), show(w, len(plainSteps(list, w)) == 0))
	}
	forSomeRewrites(203, 2000, 0, check)
	forSomeRewrites(204, 50, 392, check)
	for _, s := range someRewriteTexts {
		list := rewritesOf(t, s)
		for _, w := range allWords(3, 5) {
			check(nil, list, w)
		}
	}
}

func TestPromise11Successors(t *testing.T) {
	for _, c := range []struct{ list, w, want string }{
		{"10>01", "0011", "[] 0"}, {"10>01", "", "[] 0"}, {"10>01", "1010", "[[0 1 1 0] [1 0 0 1]] 0"}, {"0>1", "00", "[[1 0] [0 1]] 0"},
		// By the rule first, and then by the place.
		{"2>0 1>0", "12", "[[1 0] [0 2]] 0"}, {"1>0 2>0", "12", "[[0 2] [1 0]] 0"}, {"2>3 1>4", "1212", "[[1 3 1 2] [1 2 1 3] [4 2 1 2] [1 2 4 2]] 0"}, {"12>- 1>9", "112", "[[1] [9 1 2] [1 9 2]] 0"},
		// Words that stand twice count where they stand first.
		{"00>0", "0000", "[[0 0 0]] 0"}, {"0>- 00>0 0>1", "00", "[[0] [1 0] [0 1]] 0"}, {"0>1 0>1", "00", "[[1 0] [0 1]] 0"}, {"1>0 10>00 1>2", "10", "[[0 0] [2 0]] 0"}, {"01>1 0>- 1>0", "01", "[[1] [0 0]] 0"}, {"0>1 00>11 00>10", "00", "[[1 0] [0 1] [1 1]] 0"},
		{"10>0 1>-", "110", "[[1 0]] 0"}, {"1>- 10>0", "1010", "[[0 1 0] [1 0 0]] 0"},
		// Occurrences that share letters, and those at the very end.
		{"00>1", "000", "[[1 0] [0 1]] 0"}, {"010>2", "01010", "[[2 1 0] [0 1 2]] 0"}, {"12>3", "0012", "[[0 0 3]] 0"}, {"12>3", "001", "[] 0"}, {"12>3", "1", "[] 0"}, {"2>-", "2", "[[]] 0"},
		// The word itself may be one of them.
		{"0>0", "000", "[[0 0 0]] 0"}, {"0>0 1>0", "01", "[[0 1] [0 0]] 0"}, {"01>10 10>01", "010", "[[1 0 0] [0 0 1]] 0"}, {"123>321 1>1", "123", "[[3 2 1] [1 2 3]] 0"},
	} {
		expect(t, show(c.list, c.w, show(impl.SuccessorsOf(rewritesOf(t, c.list), wordOf(c.w)))), show(c.list, c.w, c.want))
	}
	// There are no limits of their number.
	var list []impl.Rewrite
	for n := range int64(60) {
		list = append(list, rewrite([]int64{0}, []int64{1 + n/10, n % 10, 9}))
	}
	words, code := impl.SuccessorsOf(list, repeat(0, 10))
	expect(t, show(len(words), words[599], code), show(600, append(repeat(0, 9), 6, 9, 9), impl.OK))
}

func TestPromise11NormalWords(t *testing.T) {
	list := rewritesOf(t, "10>01 22>222222222222")
	for _, c := range []struct {
		w    []int64
		want bool
	}{
		{nil, true}, {[]int64{0}, true}, {[]int64{1}, true}, {[]int64{0, 1}, true}, {[]int64{1, 0}, false}, {[]int64{0, 0, 1, 1}, true}, {[]int64{0, 1, 1, 0}, false}, {[]int64{2}, true}, {[]int64{1, 2, 0, 2}, true}, {[]int64{2, 2}, false}, {append(repeat(0, 398), 2, 2), false}, {append(repeat(0, 399), 2), true}, {append(repeat(1, 399), 0), false}, {repeat(1, 400), true},
		{repeat(1, 401), false}, {[]int64{10}, false}, {[]int64{-1}, false},
	} {
		expect(t, show(c.w, impl.IsNormalWord(list, c.w)), show(c.w, c.want))
	}
	whole := []impl.Rewrite{rewrite(repeat(3, 400), nil)}
	expect(t, show(impl.IsNormalWord(whole, repeat(3, 400)), impl.IsNormalWord(whole, repeat(3, 399))), "false true")
	for _, bad := range badRewrites() {
		expect(t, show(impl.IsNormalWord(bad, nil), impl.IsNormalWord(bad, []int64{7}), impl.IsNormalWord(bad, repeat(0, 401))), "false false false")
	}
}

// A walk takes any of the steps that there are; its steps are a derivation of each word that it comes to.
func TestPromise11WalksAreDerivations(t *testing.T) {
	t.Parallel()
	long := 0
	check := func(random *rand.Rand, list []impl.Rewrite, w []int64) {
		var steps [][]int64
		last := w
		for range mostSteps {
			next := slices.DeleteFunc(plainSteps(list, last), plainStep.isLong)
			if len(next) == 0 {
				break
			}
			step := next[random.Intn(len(next))]
			steps, last = append(steps, step.numbers()), step.word()
		}
		expect(t, show(impl.CheckDerivation(list, w, steps)), show(last, impl.OK))
		half := len(steps) / 2
		middle, code := impl.CheckDerivation(list, w, steps[:half])
		expect(t, show(code), "0")
		expect(t, show(impl.CheckDerivation(list, middle, steps[half:])), show(last, impl.OK))
		if len(steps) < mostSteps {
			return
		}
		long++
		expect(t, show(impl.CheckDerivation(list, w, append(steps, []int64{0, 0}))), "[] 2")
	}
	forSomeRewrites(205, 400, 0, check)
	forSomeRewrites(206, 10, 392, check)
	if long < 50 {
		t.Errorf("only %d derivations have the greatest number of steps", long)
	}
}

func TestPromise11Derivations(t *testing.T) {
	list := rewritesOf(t, "10>01 1>-")
	w := []int64{1, 1, 0}
	for _, c := range []struct {
		steps [][]int64
		want  string
	}{
		{nil, "[1 1 0] 0"}, {[][]int64{}, "[1 1 0] 0"}, {[][]int64{{0, 1}}, "[1 0 1] 0"}, {[][]int64{{0, 1}, {0, 0}}, "[0 1 1] 0"}, {[][]int64{{0, 1}, {0, 0}, {1, 2}, {1, 1}}, "[0] 0"}, {[][]int64{{1, 0}, {0, 0}}, "[0 1] 0"},
		{[][]int64{{}}, "[] 7"}, {[][]int64{nil}, "[] 7"}, {[][]int64{{0}}, "[] 7"}, {[][]int64{{0, 1, 0}}, "[] 7"}, {[][]int64{{0, 1}, {}}, "[] 7"}, {[][]int64{{0, 1}, {0}}, "[] 7"}, {[][]int64{{0, 1}, {0, 0, 0}}, "[] 7"}, {[][]int64{{}, {0, 1}}, "[] 7"}, {[][]int64{{0, 1, 0}, {0, 0}}, "[] 7"},
		{[][]int64{{0, 0}}, "[] 7"}, {[][]int64{{0, 2}}, "[] 7"}, {[][]int64{{0, 3}}, "[] 7"}, {[][]int64{{0, 4}}, "[] 7"}, {[][]int64{{0, -1}}, "[] 7"}, {[][]int64{{-1, 1}}, "[] 7"}, {[][]int64{{2, 1}}, "[] 7"}, {[][]int64{{1, 0}, {1, 0}, {1, 0}}, "[] 7"}, {[][]int64{{0, 1}, {0, 1}}, "[] 7"}, {[][]int64{{0, 1}, {0, 0}, {0, 0}}, "[] 7"},
		{[][]int64{{math.MinInt64, 0}}, "[] 7"}, {[][]int64{{math.MaxInt64, 0}}, "[] 7"}, {[][]int64{{0, math.MinInt64}}, "[] 7"}, {[][]int64{{0, math.MaxInt64}}, "[] 7"}, {[][]int64{{1 << 32, 1}}, "[] 7"}, {[][]int64{{0, 1<<32 + 1}}, "[] 7"},
	} {
		expect(t, show(c.steps, show(impl.CheckDerivation(list, w, c.steps))), show(c.steps, c.want))
	}
	same := rewritesOf(t, "0>0")
	for _, many := range []int{0, 1, 99, 100} {
		expect(t, show(impl.CheckDerivation(same, []int64{1, 0}, slices.Repeat([][]int64{{0, 1}}, many))), "[1 0] 0")
	}
	// Their number counts before what they are.
	for _, step := range [][]int64{{0, 1}, {0, 0}, {}, {0}, {9, 9}} {
		expect(t, show(impl.CheckDerivation(same, []int64{1, 0}, slices.Repeat([][]int64{step}, 101))), "[] 2")
	}
	expect(t, show(impl.CheckDerivation(same, []int64{1, 0}, make([][]int64, 5000))), "[] 2")
	expect(t, show(impl.CheckDerivation(same, []int64{1, 0}, append(slices.Repeat([][]int64{{0, 1}}, 99), []int64{0, 0}))), "[] 7")
	grows := rewritesOf(t, "0>00")
	expect(t, show(impl.CheckDerivation(grows, repeat(0, 300), slices.Repeat([][]int64{{0, 0}}, 100))), show(repeat(0, 400), impl.OK))
	expect(t, show(impl.CheckDerivation(grows, repeat(0, 301), slices.Repeat([][]int64{{0, 0}}, 100))), "[] 7")
	expect(t, show(impl.CheckDerivation(grows, repeat(0, 400), nil)), show(repeat(0, 400), impl.OK))
}

func TestPromise11Reverse(t *testing.T) {
	forSomeRewrites(207, 500, 0, func(_ *rand.Rand, list []impl.Rewrite, w []int64) {
		var want []impl.Rewrite
		for _, r := range list {
			want = append(want, rewrite(r.To, r.From))
		}
		reverse, code := impl.ReverseRewrites(list)
		if slices.ContainsFunc(list, func(r impl.Rewrite) bool { return len(r.To) == 0 }) {
			expect(t, show(reverse, code), "[] 6")
			return
		}
		expect(t, show(reverse, code), show(want, impl.OK))
		again, code := impl.ReverseRewrites(reverse)
		expect(t, show(again, code), show(list, impl.OK))
		// A step goes back with the same numbers.
		for _, s := range plainSteps(list, w) {
			expect(t, show(impl.ApplyRewrite(reverse, s.word(), s.rule, s.at)), show(w, impl.OK))
		}
	})
	for s, want := range map[string]string{"10>01": "01>10", "1>234 0>0 5>6": "234>1 0>0 6>5", "1>-": "", "0>1 1>- 1>0": "", "1>- 0>1": "", "0>1 1>-": ""} {
		reverse, code := impl.ReverseRewrites(rewritesOf(t, s))
		wantCode := int64(impl.OK)
		if want == "" {
			wantCode = impl.ErrState
		}
		expect(t, show(s, impl.RewritesText(reverse), code), show(s, want, wantCode))
	}
	whole := []impl.Rewrite{rewrite(repeat(0, 400), repeat(1, 400))}
	expect(t, show(impl.ReverseRewrites(whole)), show([]impl.Rewrite{rewrite(repeat(1, 400), repeat(0, 400))}, impl.OK))
}

// plainOverlaps tries each word that begins with one From and ends with another one, the shortest ones first.
func plainOverlaps(list []impl.Rewrite) ([][][]int64, int64) {
	var all [][][]int64
	isLong := false
	for i, a := range list {
		for k, b := range list {
			for length := max(len(a.From), len(b.From)); length < len(a.From)+len(b.From); length++ {
				end := length - len(b.From)
				word := slices.Concat(a.From, b.From)[:length]
				copy(word[end:], b.From)
				if !slices.Equal(word[:len(a.From)], a.From) || i == k && end == 0 {
					continue
				}
				overlap := [][]int64{word, slices.Concat(a.To, word[len(a.From):]), slices.Concat(word[:end], b.To)}
				all = append(all, overlap)
				isLong = isLong || slices.ContainsFunc(overlap, func(w []int64) bool { return len(w) > mostLetters })
			}
		}
	}
	if isLong || len(all) > mostFound {
		return nil, impl.ErrFull
	}
	return all, impl.OK
}

func TestPromise11OverlapsAsByModel(t *testing.T) {
	codes := map[int64]int{}
	check := func(list []impl.Rewrite) {
		want, code := plainOverlaps(list)
		expect(t, show(impl.RewritesText(list), show(impl.OverlapsOf(list))), show(impl.RewritesText(list), show(want, code)))
		codes[code]++
	}
	random := rand.New(rand.NewSource(208))
	for range 1500 {
		check(someRewrites(random, 1+random.Intn(3), 1+random.Intn(6)))
	}
	for range 300 {
		a, b := randomWord(random, 1+random.Intn(20)), randomWord(random, 1+random.Intn(20))
		check([]impl.Rewrite{rewrite(a, b), rewrite(b, a), rewrite(slices.Concat(a, b), a)})
		check([]impl.Rewrite{rewrite(slices.Concat(a, b, a), b), rewrite(slices.Concat(b, a), nil)})
	}
	for range 150 {
		check([]impl.Rewrite{rewrite(randomWord(random, 190+random.Intn(30)), repeat(1, 150+random.Intn(200))), rewrite(randomWord(random, 1+random.Intn(40)), []int64{1})})
	}
	if codes[impl.OK] < 500 || codes[impl.ErrFull] < 20 {
		t.Errorf("lists with the codes 0 and 5: %v", codes)
	}
}

func TestPromise11Overlaps(t *testing.T) {
	for _, c := range []struct{ list, want string }{
		{"10>01", "[] 0"}, {"0>1", "[] 0"}, {"01>2 23>4", "[] 0"}, {"01>2 12>0", "[[[0 1 2] [2 2] [0 0]]] 0"}, {"12>0 01>2", "[[[0 1 2] [2 2] [0 0]]] 0"},
		// Of one rule with itself, but not at the same place.
		{"00>1", "[[[0 0 0] [1 0] [0 1]]] 0"}, {"000>1", "[[[0 0 0 0] [1 0] [0 1]] [[0 0 0 0 0] [1 0 0] [0 0 1]]] 0"}, {"010>2", "[[[0 1 0 1 0] [2 1 0] [0 1 2]]] 0"}, {"00>-", "[[[0 0 0] [0] [0]]] 0"},
		// Of rules one of which contains the other one at its beginning, at its end, at both, or only within it.
		{"012>3 01>4", "[[[0 1 2] [4 2] [3]]] 0"}, {"01>4 012>3", "[[[0 1 2] [4 2] [3]]] 0"}, {"012>3 12>4", "[[[0 1 2] [3] [0 4]]] 0"}, {"12>4 012>3", "[[[0 1 2] [3] [0 4]]] 0"}, {"012>3 1>4", "[] 0"}, {"1>4 012>3", "[] 0"},
		{"010>2 0>3", "[[[0 1 0 1 0] [2 1 0] [0 1 2]] [[0 1 0] [2] [0 1 3]] [[0 1 0] [3 1 0] [2]]] 0"}, {"0>3 010>2", "[[[0 1 0] [3 1 0] [2]] [[0 1 0] [2] [0 1 3]] [[0 1 0 1 0] [2 1 0] [0 1 2]]] 0"},
		// Of rules with the same From, in both orders.
		{"0>1 0>2", "[[[0] [1] [2]] [[0] [2] [1]]] 0"}, {"01>1 01>2", "[[[0 1] [1] [2]] [[0 1] [2] [1]]] 0"}, {"0>1 0>1", "[[[0] [1] [1]] [[0] [1] [1]]] 0"},
		{"00>1 00>2", "[[[0 0 0] [1 0] [0 1]] [[0 0] [1] [2]] [[0 0 0] [1 0] [0 2]] [[0 0] [2] [1]] [[0 0 0] [2 0] [0 1]] [[0 0 0] [2 0] [0 2]]] 0"},
		{"01>- 10>22", "[[[0 1 0] [0] [0 2 2]] [[1 0 1] [2 2 1] [1]]] 0"}, {"0011>5 1100>6", "[[[0 0 1 1 0 0] [5 0 0] [0 0 6]] [[0 0 1 1 1 0 0] [5 1 0 0] [0 0 1 6]] [[1 1 0 0 1 1] [6 1 1] [1 1 5]] [[1 1 0 0 0 1 1] [6 0 1 1] [1 1 0 5]]] 0"},
	} {
		expect(t, show(c.list, show(impl.OverlapsOf(rewritesOf(t, c.list)))), show(c.list, c.want))
	}
}

// A word of n equal letters overlaps with itself in n - 1 ways.
func TestPromise11ManyOverlaps(t *testing.T) {
	for _, c := range []struct {
		first, second int
		code          int64
	}{
		{200, 100, impl.OK}, {200, 101, impl.OK}, {200, 102, impl.OK}, {200, 103, impl.ErrFull}, {102, 200, impl.OK}, {103, 200, impl.ErrFull}, {151, 151, impl.OK}, {151, 152, impl.ErrFull}, {200, 200, impl.ErrFull}, {201, 1, impl.ErrFull}, {1, 201, impl.ErrFull}, {400, 1, impl.ErrFull}, {1, 1, impl.OK},
	} {
		list := []impl.Rewrite{rewrite(repeat(0, c.first), []int64{2}), rewrite(repeat(1, c.second), nil)}
		overlaps, code := impl.OverlapsOf(list)
		want := 0
		if c.code == impl.OK {
			want = c.first + c.second - 2
		}
		expect(t, show(c, len(overlaps), code), show(c, want, c.code))
		if want > 0 {
			expect(t, show(overlaps[0]), show([][]int64{repeat(0, c.first+1), {2, 0}, {0, 2}}))
			expect(t, show(overlaps[want-1]), show([][]int64{repeat(1, 2*c.second-1), repeat(1, c.second-1), repeat(1, c.second-1)}))
		}
	}
	// 18 rules with one From overlap in 306 ways, 17 of them in 272.
	same := slices.Repeat([]impl.Rewrite{rewrite([]int64{0}, []int64{1})}, 60)
	for many, want := range map[int]string{1: "0 0", 2: "2 0", 17: "272 0", 18: "0 5", 60: "0 5"} {
		overlaps, code := impl.OverlapsOf(same[:many])
		expect(t, show(many, len(overlaps), code), show(many)+" "+want)
	}
}

// Each of the three words may be one with MaxWord letters, but not with more.
func TestPromise11LongOverlaps(t *testing.T) {
	for _, c := range []struct {
		list  []impl.Rewrite
		words []int
	}{
		{[]impl.Rewrite{rewrite(append(repeat(0, 199), 2), nil), rewrite(append([]int64{2}, repeat(1, 200)...), nil)}, []int{400, 200, 199}},
		{[]impl.Rewrite{rewrite(append(repeat(0, 199), 2), nil), rewrite(append([]int64{2}, repeat(1, 201)...), nil)}, nil},
		{[]impl.Rewrite{rewrite([]int64{0, 2}, repeat(9, 399)), rewrite([]int64{2, 1}, nil)}, []int{3, 400, 1}},
		{[]impl.Rewrite{rewrite([]int64{0, 2}, repeat(9, 400)), rewrite([]int64{2, 1}, nil)}, nil},
		{[]impl.Rewrite{rewrite([]int64{0, 2}, nil), rewrite([]int64{2, 1}, repeat(9, 399))}, []int{3, 1, 400}},
		{[]impl.Rewrite{rewrite([]int64{0, 2}, nil), rewrite([]int64{2, 1}, repeat(9, 400))}, nil},
		{[]impl.Rewrite{rewrite(append(repeat(0, 399), 2), nil), rewrite([]int64{2}, nil)}, []int{400, 0, 399}},
		{[]impl.Rewrite{rewrite(append(repeat(0, 399), 2), nil), rewrite([]int64{2}, []int64{9})}, []int{400, 0, 400}},
		{[]impl.Rewrite{rewrite(append(repeat(0, 399), 2), nil), rewrite([]int64{2}, []int64{9, 9})}, nil},
		{[]impl.Rewrite{rewrite(append(repeat(0, 399), 2), nil), rewrite([]int64{2, 1}, nil)}, nil},
	} {
		overlaps, code := impl.OverlapsOf(c.list)
		if c.words == nil {
			expect(t, show(overlaps, code), "[] 5")
			continue
		}
		var lengths []int
		for _, w := range slices.Concat(overlaps...) {
			lengths = append(lengths, len(w))
		}
		expect(t, show(lengths, code), show(c.words, impl.OK))
	}
}

func TestPromise11InvalidRewrites(t *testing.T) {
	words := [][]int64{nil, {0}, {1, 1, 0}, {10}, repeat(0, 401)}
	for _, list := range badRewrites() {
		for _, w := range words {
			expectNoRewriting(t, list, w)
		}
		expect(t, show(impl.ReverseRewrites(list)), "[] 1")
		expect(t, show(impl.OverlapsOf(list)), "[] 1")
	}
	for _, s := range someRewriteTexts {
		for _, w := range notWords {
			expectNoRewriting(t, rewritesOf(t, s), w)
		}
	}
}

// expectNoRewriting checks that nothing is done with a word, also if there is something wrong with other arguments.
func expectNoRewriting(t *testing.T, list []impl.Rewrite, w []int64) {
	t.Helper()
	expect(t, show(impl.SuccessorsOf(list, w)), "[] 1")
	expect(t, show(impl.IsNormalWord(list, w)), "false")
	for _, n := range []int64{0, 1, -1, 60, 401, impl.MaxBudget, impl.MaxBudget + 1, math.MinInt64, math.MaxInt64} {
		expect(t, show(impl.ApplyRewrite(list, w, 0, n)), "[] 1")
		expect(t, show(impl.ApplyRewrite(list, w, n, 0)), "[] 1")
		expect(t, show(impl.ReachWords(list, w, n)), "[] false 1")
		expect(t, show(impl.NormalFormsOf(list, w, n)), "[] false 1")
		for _, other := range [][]int64{w, nil, {0}} {
			expect(t, show(impl.DerivationOf(list, w, other, n)), "[] 1")
			expect(t, show(impl.DerivationOf(list, other, w, n)), "[] 1")
			expect(t, show(impl.AreJoinable(list, w, other, n)), "false 1")
			expect(t, show(impl.AreJoinable(list, other, w, n)), "false 1")
		}
	}
	for _, steps := range [][][]int64{nil, {{0, 0}}, {{}}, {{0}, {0, 0, 0}}, {{-1, -1}}, make([][]int64, 100), make([][]int64, 101)} {
		expect(t, show(impl.CheckDerivation(list, w, steps)), "[] 1")
	}
}
