package tests

import (
	"math"
	"math/rand"
	"slices"
	"strings"
	"testing"

	"loop.example/g01079/impl"
)

func markovOf(t *testing.T, s string) []impl.MarkovRule {
	t.Helper()
	return mustRead(t, impl.ReadMarkov, s)
}

func markovRule(from, to []int64, last bool) impl.MarkovRule {
	return impl.MarkovRule{From: from, To: to, Last: last}
}

// badMarkovs returns lists that are no Markov rules, each for another reason.
func badMarkovs() [][]impl.MarkovRule {
	good := markovRule(nil, []int64{0, 1}, true)
	all := [][]impl.MarkovRule{nil, {}, slices.Repeat([]impl.MarkovRule{good}, 61), slices.Repeat([]impl.MarkovRule{good}, 5000), make([]impl.MarkovRule, 61)}
	for _, s := range badSides() {
		for _, last := range []bool{false, true} {
			bad := markovRule(s[0], s[1], last)
			all = append(all, []impl.MarkovRule{bad}, []impl.MarkovRule{good, bad}, []impl.MarkovRule{bad, good}, append(slices.Repeat([]impl.MarkovRule{good}, 59), bad))
		}
	}
	return all
}

// someMarkovTexts are those of rules that work in different ways.
var someMarkovTexts = []string{"1>- ->2.", "10>01", "->1", "->-", "->-.", "0>1.", "0>00 1>0.", "20>022 1>02 0>-", "1>1", "9>- 00>9. ->00"}

func sampleMarkovs() [][]impl.MarkovRule {
	all := append(badMarkovs()[:12], []impl.MarkovRule{markovRule(repeat(0, 400), nil, true)}, []impl.MarkovRule{markovRule([]int64{1}, repeat(9, 400), false), markovRule(repeat(0, 200), []int64{1}, false)}, make([]impl.MarkovRule, 60))
	for _, s := range someMarkovTexts {
		list, _ := impl.ReadMarkov(s)
		all = append(all, list)
	}
	return all
}

// someMarkovRules returns rules over so many letters, one in six of which is the last one.
func someMarkovRules(random *rand.Rand, letters int) []impl.MarkovRule {
	var list []impl.MarkovRule
	for range 1 + random.Intn(5) {
		from := someTagWord(random, letters, random.Intn(4))
		list = append(list, markovRule(from, someTagWord(random, letters, random.Intn(4)), random.Intn(6) == 0))
	}
	return list
}

// forSomeMarkovs checks many lists of rules with a word, which has at least so many letters.
func forSomeMarkovs(seed int64, many, least int, check func(random *rand.Rand, list []impl.MarkovRule, w []int64)) {
	random := rand.New(rand.NewSource(seed))
	for range many {
		letters := 1 + random.Intn(3)
		check(random, someMarkovRules(random, letters), someTagWord(random, letters, least+random.Intn(9)))
	}
}

// markovModel runs a Markov algorithm in the plainest way. The last index is that of the rule of the last step.
type markovModel struct {
	list  []impl.MarkovRule
	w     []int64
	last  int
	ended bool
}

func newMarkovModel(list []impl.MarkovRule, w []int64) *markovModel {
	return &markovModel{list: list, w: slices.Clone(w)}
}

func (m *markovModel) config() []int64 { return slices.Clone(m.w) }

// rule returns the index of the first rule that occurs, and -1 if there is none.
func (m *markovModel) rule() int {
	return slices.IndexFunc(m.list, func(r impl.MarkovRule) bool { return len(placesIn(m.w, r.From)) > 0 })
}

func (m *markovModel) halts() bool { return m.ended || m.rule() < 0 }

func (m *markovModel) step() int64 {
	if m.halts() {
		return impl.ErrState
	}
	m.last = m.rule()
	r := m.list[m.last]
	at := placesIn(m.w, r.From)[0]
	next := slices.Concat(m.w[:at], r.To, m.w[at+int64(len(r.From)):])
	if len(next) > mostLetters {
		return impl.ErrFull
	}
	m.w, m.ended = next, r.Last
	return impl.OK
}

func TestPromise11ValidMarkov(t *testing.T) {
	for i, list := range badMarkovs() {
		if impl.ValidMarkov(list) {
			t.Errorf("the rules %d are valid: %v", i, list)
		}
	}
	for _, many := range []int{0, 1, 2, 59, 60, 61, 62} {
		for _, last := range []bool{false, true} {
			list := slices.Repeat([]impl.MarkovRule{markovRule(nil, nil, last)}, many)
			expect(t, show(many, impl.ValidMarkov(list)), show(many, many >= 1 && many <= 60))
		}
	}
	for _, length := range []int{0, 1, 399, 400, 401} {
		w := repeat(9, length)
		fits := length <= 400
		expect(t, show(length, impl.ValidMarkov([]impl.MarkovRule{markovRule(w, nil, false)}), impl.ValidMarkov([]impl.MarkovRule{markovRule(nil, w, true)})), show(length, fits, fits))
	}
}

func plainMarkovText(list []impl.MarkovRule) string {
	var texts []string
	for _, r := range list {
		text := plainSidesText(r.From, r.To)
		if r.Last {
			text += "."
		}
		texts = append(texts, text)
	}
	return strings.Join(texts, " ")
}

func TestPromise11MarkovTexts(t *testing.T) {
	check := func(list []impl.MarkovRule) {
		t.Helper()
		text := impl.MarkovText(list)
		expect(t, text, plainMarkovText(list))
		back, ok := impl.ReadMarkov(text)
		expect(t, show(back, ok), show(list, true))
	}
	forSomeMarkovs(220, 300, 0, func(_ *rand.Rand, list []impl.MarkovRule, _ []int64) { check(list) })
	whole := markovRule(repeat(9, 400), repeat(0, 400), true)
	for _, list := range [][]impl.MarkovRule{{whole}, slices.Repeat([]impl.MarkovRule{whole}, 60), {markovRule(nil, nil, false)}, {markovRule([]int64{}, []int64{}, true)}, make([]impl.MarkovRule, 60)} {
		check(list)
	}
	for i, bad := range badMarkovs() {
		expect(t, show(i, impl.MarkovText(bad)), show(i, ""))
		if len(bad) > 60 {
			list, ok := impl.ReadMarkov(plainMarkovText(bad))
			expect(t, show(i, list, ok), show(i, []impl.MarkovRule{}, false))
		}
	}
	for _, s := range someMarkovTexts {
		list, ok := impl.ReadMarkov(s)
		expect(t, show(impl.MarkovText(list), ok), show(s, true))
	}
}

func TestPromise11OtherMarkovTexts(t *testing.T) {
	for _, s := range append(badRuleTexts(), "1>0..", "1>0 .", "1>0. ", " 1>0.", "1>0.2>1.", "1>0 2>1..", ".->1", "-.>1", "->.", "1.>0.", "1>0.-", "1>0-.", "1>0.\n", "1>0,", "1>0!", "1>0\u3002", strings.Repeat("1>0.", 1000)) {
		list, ok := impl.ReadMarkov(s)
		expect(t, show(len(s), list, ok), show(len(s), []impl.MarkovRule{}, false))
	}
	expect(t, show(impl.ReadMarkov("->-.")), show([]impl.MarkovRule{{Last: true}}, true))
	expect(t, show(impl.ReadMarkov("-"+">"+strings.Repeat("7", 400)+".")), show([]impl.MarkovRule{markovRule(nil, repeat(7, 400), true)}, true))
	list, ok := impl.ReadMarkov(strings.Repeat("->1. ", 59) + "1>-")
	expect(t, show(len(list), list[58], list[59], ok), "60 {[] [1] true} {[1] [] false} true")
}

func TestPromise11SingleMarkovSteps(t *testing.T) {
	for _, c := range []struct{ list, w, want string }{
		// The first rule that occurs, wherever that is, and its first occurrence.
		{"2>0 1>0", "12", "[1 0] 0 0"}, {"1>0 2>0", "12", "[0 2] 0 0"}, {"3>0 2>0 1>0", "121", "[1 0 1] 1 0"}, {"1>0", "2121", "[2 0 2 1] 0 0"}, {"11>2", "1111", "[2 1 1] 0 0"}, {"121>3", "12121", "[3 2 1] 0 0"}, {"12>3", "112", "[1 3] 0 0"}, {"0>1 0>2", "0", "[1] 0 0"},
		{"1>- ->2.", "11", "[1] 0 0"}, {"1>- ->2.", "0", "[2 0] 1 0"}, {"1>1", "1", "[1] 0 0"}, {"12>-", "12", "[] 0 0"}, {"1>2.", "1", "[2] 0 0"},
		// An empty From occurs first at the beginning, in each word.
		{"->1", "", "[1] 0 0"}, {"->1", "20", "[1 2 0] 0 0"}, {"->12", "2", "[1 2 2] 0 0"}, {"->-", "20", "[2 0] 0 0"}, {"->-", "", "[] 0 0"}, {"->- 1>2", "1", "[1] 0 0"}, {"1>2 ->-.", "0", "[0] 1 0"}, {"1>2 0>3 ->5", "", "[5] 2 0"},
		// No rule occurs.
		{"1>0", "", "[] 0 6"}, {"1>0", "222", "[] 0 6"}, {"11>0", "1", "[] 0 6"}, {"12>0 21>0", "1122333", "[1 0 2 3 3 3] 0 0"}, {"13>0 21>0", "1122333", "[] 0 6"},
	} {
		expect(t, show(c.list, c.w, show(impl.StepMarkov(markovOf(t, c.list), wordOf(c.w)))), show(c.list, c.w, c.want))
	}
	var many []impl.MarkovRule
	for n := range int64(60) {
		many = append(many, markovRule([]int64{n / 10, n % 10}, []int64{n / 10}, n%2 == 0))
	}
	expect(t, show(impl.StepMarkov(many, []int64{5, 9})), "[5] 59 0")
	expect(t, show(impl.StepMarkov(many, []int64{5, 9, 0, 0})), "[5 9 0] 0 0")
	expect(t, show(impl.StepMarkov(many, []int64{9, 9, 9})), "[] 0 6")
}

func TestPromise11MarkovAsByModel(t *testing.T) {
	t.Parallel()
	codes := map[int64]int{}
	check := func(_ *rand.Rand, list []impl.MarkovRule, w []int64) {
		m := newMarkovModel(list, w)
		made := 0
		for budget := int64(1); budget <= 40; budget++ {
			what := show(impl.MarkovText(list), w, budget) + " "
			before, ended := m.config(), m.ended
			code := m.step()
			codes[code]++
			next, rule, got := impl.StepMarkov(list, before)
			switch {
			case code == impl.ErrFull:
				expect(t, what+show(next, rule, got), what+"[] 0 5")
				expect(t, what+show(impl.RunMarkov(list, w, budget)), what+"[] 0 false 5")
				return
			case code == impl.OK:
				made++
				expect(t, what+show(next, rule, got), what+show(m.config(), m.last, impl.OK))
			case !ended:
				expect(t, what+show(next, rule, got), what+"[] 0 6")
			}
			expect(t, what+show(impl.RunMarkov(list, w, budget)), what+show(m.config(), made, m.halts(), impl.OK))
		}
	}
	forSomeMarkovs(221, 500, 0, check)
	forSomeMarkovs(222, 60, 390, check)
	for _, s := range someMarkovTexts {
		for _, w := range allWords(3, 3) {
			check(nil, markovOf(t, s), w)
		}
	}
	if codes[impl.OK] < 5000 || codes[impl.ErrState] < 5000 || codes[impl.ErrFull] < 20 {
		t.Errorf("steps with the codes 0, 6 and 5: %v", codes)
	}
}

func TestPromise11MarkovRunsGoOn(t *testing.T) {
	goesOn := 0
	forSomeMarkovs(223, 500, 0, func(random *rand.Rand, list []impl.MarkovRule, w []int64) {
		first, second := 1+random.Int63n(30), 1+random.Int63n(30)
		middle, made, halts, code := impl.RunMarkov(list, w, first)
		expect(t, show(code), "0")
		if halts {
			// No further step is made, also behind a rule that is the last one.
			expect(t, show(impl.RunMarkov(list, w, first+second)), show(middle, made, true, impl.OK))
			return
		}
		goesOn++
		end, more, halts, code := impl.RunMarkov(list, middle, second)
		expect(t, show(impl.RunMarkov(list, w, first+second)), show(end, made+more, halts, code))
	})
	if goesOn < 100 {
		t.Errorf("only %d runs go on", goesOn)
	}
}

func TestPromise11MarkovEnds(t *testing.T) {
	for _, c := range []struct {
		list, w string
		budget  int64
		want    string
	}{
		{"1>- ->2.", "11", 1, "[1] 1 false 0"}, {"1>- ->2.", "11", 2, "[] 2 false 0"}, {"1>- ->2.", "11", 3, "[2] 3 true 0"}, {"1>- ->2.", "11", 4, "[2] 3 true 0"}, {"1>- ->2.", "11", impl.MaxBudget, "[2] 3 true 0"},
		// The last step of the budget may be the last one of the run, by a last rule or as no rule occurs any more.
		{"1>0.", "1", 1, "[0] 1 true 0"}, {"1>0", "1", 1, "[0] 1 true 0"}, {"1>0.", "11", 1, "[0 1] 1 true 0"}, {"1>0", "11", 1, "[0 1] 1 false 0"}, {"1>0.", "11", 9, "[0 1] 1 true 0"}, {"1>0", "11", 2, "[0 0] 2 true 0"}, {"1>1.", "1", 1, "[1] 1 true 0"}, {"1>1", "1", 1, "[1] 1 false 0"}, {"->-.", "", 1, "[] 1 true 0"}, {"->-", "", 1, "[] 1 false 0"},
		{"0>1 1>2.", "00", 2, "[1 1] 2 false 0"}, {"0>1 1>2.", "00", 3, "[2 1] 3 true 0"}, {"0>1. 1>2", "01", 5, "[1 1] 1 true 0"}, {"0>1. 1>2", "31", 5, "[3 2] 1 true 0"}, {"1>2 0>1.", "01", 2, "[1 2] 2 true 0"},
		// No step at all, although there is a last rule.
		{"1>0.", "222", 1, "[2 2 2] 0 true 0"}, {"1>0", "", 1, "[] 0 true 0"}, {"1>0", "", impl.MaxBudget, "[] 0 true 0"},
		{"1>1", "1", impl.MaxBudget, "[1] 20000 false 0"}, {"->-", "12", impl.MaxBudget - 1, "[1 2] 19999 false 0"}, {"10>01", "1100", 4, "[0 0 1 1] 4 true 0"}, {"10>01", "1100", 3, "[0 1 0 1] 3 false 0"},
	} {
		expect(t, show(c.list, c.w, c.budget, show(impl.RunMarkov(markovOf(t, c.list), wordOf(c.w), c.budget))), show(c.list, c.w, c.budget, c.want))
	}
}

// A word may get MaxWord letters, but no more, also behind a last rule.
func TestPromise11LongMarkovWords(t *testing.T) {
	full := repeat(1, 400)
	for _, s := range []string{"->1", "->1 1>2", "2>3 ->1"} {
		list := markovOf(t, s)
		expect(t, show(impl.RunMarkov(list, nil, 400)), show(full, 400, false, impl.OK))
		expect(t, show(impl.RunMarkov(list, nil, 399)), show(repeat(1, 399), 399, false, impl.OK))
		for _, budget := range []int64{401, 402, impl.MaxBudget} {
			expect(t, show(impl.RunMarkov(list, nil, budget)), "[] 0 false 5")
		}
		expect(t, show(impl.StepMarkov(list, full)), "[] 0 5")
	}
	for from := range 4 {
		for more := 1; more <= 3; more++ {
			for _, last := range []bool{false, true} {
				list := []impl.MarkovRule{markovRule(repeat(1, from), repeat(2, from+more), last)}
				fits, long := slices.Concat(repeat(1, from), repeat(0, 400-from-more)), slices.Concat(repeat(1, from), repeat(0, 401-from-more))
				next := slices.Concat(repeat(2, from+more), repeat(0, 400-from-more))
				expect(t, show(impl.StepMarkov(list, fits)), show(next, 0, impl.OK))
				expect(t, show(impl.StepMarkov(list, long)), "[] 0 5")
				expect(t, show(impl.RunMarkov(list, fits, 1)), show(next, 1, last || from > 0, impl.OK))
				expect(t, show(impl.RunMarkov(list, long, 1)), "[] 0 false 5")
			}
		}
	}
	// A rule behind that would fit does not help.
	expect(t, show(impl.StepMarkov(markovOf(t, "0>00 0>1"), repeat(0, 400))), "[] 0 5")
	expect(t, show(impl.StepMarkov(markovOf(t, "0>1 0>00"), repeat(0, 400))), show(append([]int64{1}, repeat(0, 399)...), 0, impl.OK))
	whole := []impl.MarkovRule{markovRule(repeat(0, 400), nil, false), markovRule(nil, repeat(0, 400), false)}
	expect(t, show(impl.RunMarkov(whole, nil, 7)), show(repeat(0, 400), 7, false, impl.OK))
	expect(t, show(impl.StepMarkov(whole, []int64{1})), "[] 0 5")
}

func TestPromise11MarkovErrors(t *testing.T) {
	budgets := []int64{0, -1, impl.MaxBudget + 1, 1 << 32, math.MinInt64, math.MaxInt64}
	for _, list := range badMarkovs() {
		for _, w := range [][]int64{nil, {0}, {10}, repeat(1, 400), repeat(0, 401)} {
			expect(t, show(impl.StepMarkov(list, w)), "[] 0 1")
			for _, budget := range append(budgets, 1, impl.MaxBudget) {
				expect(t, show(impl.RunMarkov(list, w, budget)), "[] 0 false 1")
			}
		}
	}
	for _, s := range someMarkovTexts {
		list := markovOf(t, s)
		for _, w := range notWords {
			expect(t, show(impl.StepMarkov(list, w)), "[] 0 1")
			for _, budget := range append(budgets, 1, impl.MaxBudget) {
				expect(t, show(impl.RunMarkov(list, w, budget)), "[] 0 false 1")
			}
		}
		// A budget that is none counts before a word that would be too long.
		for _, w := range [][]int64{nil, {0}, repeat(0, 400)} {
			for _, budget := range budgets {
				expect(t, show(impl.RunMarkov(list, w, budget)), "[] 0 false 2")
			}
		}
	}
}

// Known algorithms: numbers to the base 2 become so many letters 2, and the lesser of two heaps is taken away from the other.
func TestPromise11KnownMarkov(t *testing.T) {
	count := markovOf(t, "20>022 1>02 0>-")
	for n := range 60 {
		digits, code := impl.DigitsOf(small(int64(n)), 2)
		expect(t, show(code), "0")
		last, _, halts, code := impl.RunMarkov(count, reverseOf(digits), impl.MaxBudget)
		expect(t, show(n, last, halts, code), show(n, repeat(2, n), true, impl.OK))
	}
	less := markovOf(t, "101>0 0>-.")
	for a := range 9 {
		for b := range 9 {
			last, steps, halts, code := impl.RunMarkov(less, slices.Concat(repeat(1, a), []int64{0}, repeat(1, b)), impl.MaxBudget)
			expect(t, show(a, b, last, steps, halts, code), show(a, b, repeat(1, max(a-b, b-a)), min(a, b)+1, true, impl.OK))
		}
	}
}

// Without last rules, and if no From is empty, a run is a derivation with steps of the rewriting rules, and ends at a normal word.
func TestPromise11MarkovRunsAreDerivations(t *testing.T) {
	forSomeRewrites(224, 300, 0, func(_ *rand.Rand, list []impl.Rewrite, w []int64) {
		var rules []impl.MarkovRule
		for _, r := range list {
			rules = append(rules, markovRule(r.From, r.To, false))
		}
		end, made, halts, code := impl.RunMarkov(rules, w, 30)
		expect(t, show(code), "0")
		var steps [][]int64
		last := w
		for range made {
			next, rule, _ := impl.StepMarkov(rules, last)
			places := placesIn(last, list[rule].From)
			steps, last = append(steps, []int64{rule, places[0]}), next
		}
		expect(t, show(last), show(end))
		expect(t, show(impl.CheckDerivation(list, w, steps)), show(end, impl.OK))
		expect(t, show(impl.IsNormalWord(list, end)), show(halts))
	})
}
