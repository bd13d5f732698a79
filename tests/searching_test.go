package tests

import (
	"math"
	"math/rand"
	"slices"
	"strings"
	"testing"

	"loop.example/g01079/impl"
)

// plainFound is a word that a search has found, by a step from the found word with an index.
type plainFound struct {
	word []int64
	from int
	step plainStep
}

// plainSearch is a search from a word as it ends.
type plainSearch struct {
	list     []impl.Rewrite
	found    []plainFound
	complete bool
	// Why it is not complete.
	isFull, missed bool
}

// searchByModel treats word after word in the plainest way.
func searchByModel(list []impl.Rewrite, w []int64, budget int) plainSearch {
	s := plainSearch{list: list, found: []plainFound{{word: w, from: -1}}}
	seen := map[string]bool{digitsOf(w): true}
	treated := 0
	for treated < len(s.found) && treated < budget && !s.isFull {
		for _, step := range plainSteps(list, s.found[treated].word) {
			s.missed = s.missed || step.isLong()
			if !step.isLong() && !seen[step.digits] && !s.isFull {
				seen[step.digits] = true
				s.found = append(s.found, plainFound{step.word(), treated, step})
				s.isFull = len(s.found) == mostFound
			}
		}
		treated++
	}
	s.complete = treated == len(s.found) && !s.isFull && !s.missed
	return s
}

func (s plainSearch) words() [][]int64 {
	var words [][]int64
	for _, f := range s.found {
		words = append(words, f.word)
	}
	return words
}

func (s plainSearch) normal() [][]int64 {
	return slices.DeleteFunc(s.words(), func(w []int64) bool { return !isPlainNormal(s.list, w) })
}

func isPlainNormal(list []impl.Rewrite, w []int64) bool {
	return !slices.ContainsFunc(list, func(r impl.Rewrite) bool { return strings.Contains(digitsOf(w), digitsOf(r.From)) })
}

// derivation goes back from a word to the first one.
func (s plainSearch) derivation(w []int64) ([][]int64, int64) {
	at := slices.IndexFunc(s.found, func(f plainFound) bool { return slices.Equal(f.word, w) })
	if at < 0 && s.complete {
		return nil, impl.ErrNotFound
	}
	if at < 0 {
		return nil, impl.ErrFull
	}
	var steps [][]int64
	for ; at > 0; at = s.found[at].from {
		steps = append([][]int64{s.found[at].step.numbers()}, steps...)
	}
	if len(steps) > mostSteps {
		return nil, impl.ErrFull
	}
	return steps, impl.OK
}

// joinable tells whether two searches have a word in common.
func (s plainSearch) joinable(other plainSearch) (bool, int64) {
	for _, a := range s.found {
		for _, b := range other.found {
			if slices.Equal(a.word, b.word) {
				return true, impl.OK
			}
		}
	}
	if !s.complete || !other.complete {
		return false, impl.ErrFull
	}
	return false, impl.OK
}

// expectSearch compares a search from a word with the model, and the derivations of some words.
func expectSearch(t *testing.T, random *rand.Rand, list []impl.Rewrite, w []int64, budget int) plainSearch {
	t.Helper()
	s := searchByModel(list, w, budget)
	what := show(impl.RewritesText(list), impl.WordText(w), budget) + " "
	words, complete, code := impl.ReachWords(list, w, int64(budget))
	expect(t, what+show(words, complete, code), what+show(s.words(), s.complete, impl.OK))
	normal, complete, code := impl.NormalFormsOf(list, w, int64(budget))
	expect(t, what+show(normal, complete, code), what+show(s.normal(), s.complete, impl.OK))
	some := [][]int64{w, s.found[len(s.found)-1].word, s.found[random.Intn(len(s.found))].word, reverseOf(w)}
	for _, to := range some {
		steps, code := impl.DerivationOf(list, w, to, int64(budget))
		want, wantCode := s.derivation(to)
		expect(t, what+show(to, steps, code), what+show(to, want, wantCode))
	}
	return s
}

func reverseOf(w []int64) []int64 {
	reversed := slices.Clone(w)
	slices.Reverse(reversed)
	return reversed
}

func TestPromise11SearchesAsByModel(t *testing.T) {
	t.Parallel()
	var complete, stopped, full, missed int
	check := func(random *rand.Rand, list []impl.Rewrite, w []int64) {
		for _, budget := range []int{1 + random.Intn(12), impl.MaxBudget} {
			s := expectSearch(t, random, list, w, budget)
			switch {
			case s.complete:
				complete++
			case s.isFull:
				full++
			case s.missed:
				missed++
			default:
				stopped++
			}
		}
	}
	forSomeRewrites(210, 150, 0, check)
	forSomeRewrites(211, 2, 392, check)
	// Of the words that become longer, some are too long.
	random := rand.New(rand.NewSource(212))
	for range 40 {
		w := append(repeat(2, 392+random.Intn(7)), 1, 0)
		check(random, []impl.Rewrite{rewrite([]int64{1}, repeat(3, 1+random.Intn(5))), rewrite([]int64{0}, repeat(4, random.Intn(6))), rewrite([]int64{3, 3}, []int64{3})}, w)
	}
	if complete < 80 || stopped < 50 || full < 40 || missed < 20 {
		t.Errorf("complete: %d, at the budget: %d, with MaxFound words: %d, with words that are too long: %d", complete, stopped, full, missed)
	}
}

func TestPromise11JoinableAsByModel(t *testing.T) {
	t.Parallel()
	counts := map[string]int{}
	check := func(random *rand.Rand, list []impl.Rewrite, a []int64) {
		b := someTagWord(random, 3, max(0, len(a)-3+random.Intn(7)))
		if random.Intn(2) == 0 || len(b) > mostLetters {
			b = reverseOf(a)
		}
		for _, budget := range []int{1 + random.Intn(10), 100} {
			want := show(searchByModel(list, a, budget).joinable(searchByModel(list, b, budget)))
			counts[want]++
			what := show(impl.RewritesText(list), a, b, budget) + " "
			expect(t, what+show(impl.AreJoinable(list, a, b, int64(budget))), what+want)
			expect(t, what+show(impl.AreJoinable(list, b, a, int64(budget))), what+want)
		}
	}
	forSomeRewrites(213, 200, 0, check)
	forSomeRewrites(214, 3, 390, check)
	for _, want := range []string{"true 0", "false 0", "false 5"} {
		if counts[want] < 50 {
			t.Errorf("only %d pairs with %s", counts[want], want)
		}
	}
}

// Words are found by the rule first, then by the place, and treated in the order in which they have been found.
func TestPromise11OrderOfWords(t *testing.T) {
	for _, c := range []struct{ list, w, want string }{
		{"0>1 1>2", "00", "[[0 0] [1 0] [0 1] [1 1] [2 0] [0 2] [2 1] [1 2] [2 2]] true 0"}, {"1>2 0>1", "00", "[[0 0] [1 0] [0 1] [2 0] [1 1] [0 2] [2 1] [1 2] [2 2]] true 0"},
		{"10>01", "110", "[[1 1 0] [1 0 1] [0 1 1]] true 0"}, {"10>01", "1010", "[[1 0 1 0] [0 1 1 0] [1 0 0 1] [0 1 0 1] [0 0 1 1]] true 0"}, {"0>- 0>1", "00", "[[0 0] [0] [1 0] [0 1] [] [1] [1 1]] true 0"}, {"0>1 0>-", "00", "[[0 0] [1 0] [0 1] [0] [1 1] [1] []] true 0"},
		{"0>1 1>0", "01", "[[0 1] [1 1] [0 0] [1 0]] true 0"}, {"0>12 1>3 2>4", "0", "[[0] [1 2] [3 2] [1 4] [3 4]] true 0"}, {"0>0", "000", "[[0 0 0]] true 0"}, {"1>2 2>3 3>1", "1", "[[1] [2] [3]] true 0"}, {"0>1", "", "[[]] true 0"}, {"0>1", "22", "[[2 2]] true 0"},
	} {
		expect(t, show(c.list, c.w, show(impl.ReachWords(rewritesOf(t, c.list), wordOf(c.w), impl.MaxBudget))), show(c.list, c.w, c.want))
	}
}

// A derivation has the step by which each word has been found first, not each step that leads to it.
func TestPromise11FoundFirst(t *testing.T) {
	for _, c := range []struct{ list, from, to, want string }{
		{"0>1 1>2", "00", "11", "[[0 0] [0 1]] 0"}, {"0>1 1>2", "00", "12", "[[0 0] [0 1] [1 1]] 0"}, {"0>1 1>2", "00", "22", "[[0 0] [0 1] [1 0] [1 1]] 0"}, {"1>2 0>1", "00", "22", "[[1 0] [0 0] [1 1] [0 1]] 0"}, {"0>1 1>2", "00", "02", "[[0 1] [1 1]] 0"},
		{"0>1 0>1", "0", "1", "[[0 0]] 0"}, {"00>0", "000", "00", "[[0 0]] 0"}, {"00>0", "000", "0", "[[0 0] [0 0]] 0"}, {"2>3 0>1 0>1 00>01 00>10", "00", "01", "[[1 1]] 0"}, {"1>0 10>00", "10", "00", "[[0 0]] 0"}, {"10>00 1>0", "10", "00", "[[0 0]] 0"}, {"3>3 0>- 00>0", "200", "20", "[[1 1]] 0"},
		// The nearest way is taken, even if another one begins with a lesser rule.
		{"0>1 1>2 0>2", "0", "2", "[[2 0]] 0"}, {"0>1 1>2 2>3 0>4 4>3", "0", "3", "[[3 0] [4 0]] 0"}, {"0>1 1>3 0>2 2>3", "0", "3", "[[0 0] [1 0]] 0"},
		// There are no steps to the first word, also if it comes again.
		{"0>0", "0", "0", "[] 0"}, {"0>1 1>0", "0", "0", "[] 0"}, {"0>1 1>0", "01", "10", "[[0 0] [1 1]] 0"}, {"0>1", "", "", "[] 0"}, {"0>1", "9", "9", "[] 0"},
		{"10>01", "110", "011", "[[0 1] [0 0]] 0"}, {"10>01", "011", "110", "[] 3"}, {"0>1", "0", "2", "[] 3"}, {"0>1", "", "1", "[] 3"}, {"0>-", "000", "", "[[0 0] [0 0] [0 0]] 0"},
	} {
		expect(t, show(c.list, c.from, c.to, show(impl.DerivationOf(rewritesOf(t, c.list), wordOf(c.from), wordOf(c.to), impl.MaxBudget))), show(c.list, c.from, c.to, c.want))
	}
}

// lineWord returns a word from which one letter goes to the left: with the rule 01>10, one finds exactly one more word than
// there are zeros, one after the other.
func lineWord(zeros, behind int) []int64 {
	return slices.Concat(repeat(0, zeros-behind), []int64{1}, repeat(0, behind))
}

func TestPromise11EndsOfSearches(t *testing.T) {
	t.Parallel()
	list := rewritesOf(t, "01>10")
	for _, zeros := range []int{0, 1, 2, 17, 297, 298, 299, 300, 301, 399} {
		for _, budget := range []int{1, 2, zeros - 1, zeros, zeros + 1, zeros + 2, 298, 299, 300, 301, impl.MaxBudget} {
			if budget < 1 {
				continue
			}
			found := min(zeros+1, budget+1, 300)
			complete := budget >= zeros+1 && zeros+1 < 300
			var want [][]int64
			for behind := range found {
				want = append(want, lineWord(zeros, behind))
			}
			what := show(zeros, budget) + " "
			words, whole, code := impl.ReachWords(list, lineWord(zeros, 0), int64(budget))
			expect(t, what+show(words, whole, code), what+show(want, complete, impl.OK))
			normal, whole, code := impl.NormalFormsOf(list, lineWord(zeros, 0), int64(budget))
			expect(t, what+show(normal, whole, code), what+show(want[min(zeros, found):], complete, impl.OK))
		}
	}
}

// The 300th word ends a search at once, also among many successors of one word.
func TestPromise11FoundAtOnce(t *testing.T) {
	list := rewritesOf(t, "0>1")
	for _, zeros := range []int{297, 298, 299, 300, 400} {
		want := [][]int64{repeat(0, zeros)}
		for at := range min(zeros, 299) {
			word := repeat(0, zeros)
			word[at] = 1
			want = append(want, word)
		}
		words, complete, code := impl.ReachWords(list, repeat(0, zeros), 1)
		expect(t, show(zeros, words, complete, code), show(zeros, want, false, impl.OK))
		words, complete, code = impl.ReachWords(list, repeat(0, zeros), impl.MaxBudget)
		expect(t, show(zeros, len(words), complete, code), show(zeros, 300, false, impl.OK))
		expect(t, show(zeros, words[:len(want)]), show(zeros, want))
	}
	for letters, want := range map[int]string{7: "128 true 0", 8: "256 true 0", 9: "300 false 0"} {
		words, complete, code := impl.ReachWords(rewritesOf(t, "0>1 1>0"), repeat(0, letters), impl.MaxBudget)
		expect(t, show(letters, len(words), complete, code), show(letters)+" "+want)
	}
	// All words are found, but the last ones have not been treated.
	for budget, want := range map[int64]string{127: "128 false 0", 128: "128 true 0", 129: "128 true 0"} {
		words, complete, code := impl.ReachWords(rewritesOf(t, "0>1 1>0"), repeat(0, 7), budget)
		expect(t, show(budget, len(words), complete, code), show(budget)+" "+want)
	}
}

// A step to a word that is too long does not find it, but then the search is not complete.
func TestPromise11SearchesWithLongWords(t *testing.T) {
	for _, c := range []struct {
		list   string
		w      []int64
		budget int64
		found  int
		want   string
	}{
		{"0>00", repeat(0, 400), 9, 1, "[] false 0"}, {"0>00", repeat(0, 399), 9, 2, "[] false 0"}, {"0>00", repeat(0, 399), 1, 2, "[] false 0"}, {"0>11", append(repeat(2, 398), 0), 9, 2, show([][]int64{append(repeat(2, 398), 1, 1)}, true, impl.OK)}, {"0>11", append(repeat(2, 399), 0), 9, 1, "[] false 0"}, {"0>11", repeat(2, 400), 9, 1, show([][]int64{repeat(2, 400)}, true, impl.OK)},
		{"0>11 0>3", append(repeat(2, 399), 0), 9, 2, show([][]int64{append(repeat(2, 399), 3)}, false, impl.OK)}, {"0>3 0>11", append(repeat(2, 399), 0), 1, 2, show([][]int64{append(repeat(2, 399), 3)}, false, impl.OK)}, {"0>- 0>00", append(repeat(2, 399), 0), 9, 2, show([][]int64{repeat(2, 399)}, false, impl.OK)}, {"3>44 0>3", append(repeat(2, 399), 0), 2, 2, "[] false 0"}, {"0>4 0>3 3>55", append(repeat(2, 399), 0), 9, 3, show([][]int64{append(repeat(2, 399), 4)}, false, impl.OK)},
	} {
		list := rewritesOf(t, c.list)
		what := show(c.list, len(c.w), c.budget) + " "
		words, complete, code := impl.ReachWords(list, c.w, c.budget)
		normal, whole, again := impl.NormalFormsOf(list, c.w, c.budget)
		expect(t, what+show(normal, whole, again), what+c.want)
		expect(t, what+show(len(words), complete, code), what+show(c.found, whole, impl.OK))
		wantCode := int64(impl.ErrFull)
		if complete {
			wantCode = impl.ErrNotFound
		}
		expect(t, what+show(impl.DerivationOf(list, c.w, []int64{9}, c.budget)), what+show([][]int64{}, wantCode))
		expect(t, what+show(impl.DerivationOf(list, c.w, c.w, c.budget)), what+"[] 0")
	}
}

func TestPromise11LongDerivations(t *testing.T) {
	list := rewritesOf(t, "01>10")
	for _, zeros := range []int{1, 99, 100, 101, 298, 399} {
		for _, behind := range []int{0, 1, 98, 99, 100, 101, 102, 298, 299, 300, 399} {
			if behind > zeros {
				continue
			}
			steps, code := impl.DerivationOf(list, lineWord(zeros, 0), lineWord(zeros, behind), impl.MaxBudget)
			if behind > 100 {
				expect(t, show(zeros, behind, steps, code), show(zeros, behind, [][]int64{}, impl.ErrFull))
				continue
			}
			var want [][]int64
			for made := range behind {
				want = append(want, []int64{0, int64(zeros - 1 - made)})
			}
			expect(t, show(zeros, behind, steps, code), show(zeros, behind, want, impl.OK))
			expect(t, show(impl.CheckDerivation(list, lineWord(zeros, 0), steps)), show(lineWord(zeros, behind), impl.OK))
		}
	}
}

func TestPromise11DerivationErrors(t *testing.T) {
	list := rewritesOf(t, "01>10")
	from, near, far, other := lineWord(9, 0), lineWord(9, 3), lineWord(9, 9), []int64{1, 1}
	for _, c := range []struct {
		to     []int64
		budget int64
		want   int64
	}{
		{near, 3, impl.OK}, {near, 2, impl.ErrFull}, {near, 1, impl.ErrFull}, {far, 9, impl.OK}, {far, 8, impl.ErrFull}, {far, 10, impl.OK}, {from, 1, impl.OK}, {other, 9, impl.ErrFull}, {other, 10, impl.ErrNotFound}, {other, 11, impl.ErrNotFound}, {nil, 10, impl.ErrNotFound}, {other, impl.MaxBudget, impl.ErrNotFound},
		{near, 0, impl.ErrRange}, {from, 0, impl.ErrRange}, {other, -1, impl.ErrRange}, {near, impl.MaxBudget + 1, impl.ErrRange}, {near, math.MinInt64, impl.ErrRange}, {near, math.MaxInt64, impl.ErrRange},
	} {
		_, code := impl.DerivationOf(list, from, c.to, c.budget)
		expect(t, show(c.to, c.budget, code), show(c.to, c.budget, c.want))
	}
	// A search that ends with 300 words is not complete, whatever the word is.
	expect(t, show(impl.DerivationOf(list, lineWord(299, 0), other, impl.MaxBudget)), "[] 5")
	expect(t, show(impl.DerivationOf(list, lineWord(298, 0), other, impl.MaxBudget)), "[] 3")
	expect(t, show(impl.DerivationOf(list, lineWord(298, 0), other, 298)), "[] 5")
}

func TestPromise11Joinable(t *testing.T) {
	long := repeat(0, 400)
	for _, c := range []struct {
		list   string
		a, b   []int64
		budget int64
		want   string
	}{
		{"10>01", wordOf("110"), wordOf("101"), 9, "true 0"}, {"10>01", wordOf("110"), wordOf("011"), 9, "true 0"}, {"10>01", wordOf("110"), wordOf("100"), 9, "false 0"}, {"10>01", nil, nil, 1, "true 0"}, {"10>01", nil, wordOf("1"), 1, "false 0"}, {"01>2 12>0", wordOf("22"), wordOf("00"), 10, "false 0"},
		// Each search has the whole budget. What is found counts also if it has not been treated.
		{"0>1 1>2", wordOf("0"), wordOf("2"), 1, "false 5"}, {"0>1 1>2", wordOf("0"), wordOf("2"), 2, "true 0"}, {"0>1 1>2", wordOf("0"), wordOf("1"), 1, "true 0"}, {"0>2 1>2", wordOf("0"), wordOf("1"), 1, "true 0"}, {"0>3 3>2 1>4 4>2", wordOf("0"), wordOf("1"), 1, "false 5"}, {"0>3 3>2 1>4 4>2", wordOf("0"), wordOf("1"), 2, "true 0"},
		{"0>1 1>0 2>3", wordOf("0"), wordOf("2"), 2, "false 0"}, {"0>1 1>0 2>3", wordOf("0"), wordOf("2"), 1, "false 5"}, {"0>1 1>0", wordOf("0"), wordOf("2"), 1, "false 5"}, {"0>1 1>0", wordOf("2"), wordOf("0"), 1, "false 5"}, {"0>1 1>0", wordOf("2"), wordOf("0"), 2, "false 0"}, {"0>0", wordOf("0"), wordOf("1"), 1, "false 0"},
		{"0>00", long, long, 1, "true 0"}, {"0>00", long, wordOf("1"), 9, "false 5"}, {"0>00", wordOf("1"), long, 9, "false 5"}, {"0>00", wordOf("2"), wordOf("1"), 9, "false 0"}, {"0>00 0>1", append(repeat(2, 399), 0), append(repeat(2, 399), 1), 9, "true 0"},
		{"01>10", lineWord(299, 0), wordOf("1"), 999, "false 5"}, {"01>10", lineWord(298, 0), wordOf("1"), 999, "false 0"}, {"01>10", wordOf("1"), lineWord(299, 0), 999, "false 5"}, {"01>10", lineWord(399, 0), lineWord(399, 299), 999, "true 0"}, {"01>10", lineWord(399, 0), lineWord(399, 300), 999, "false 5"}, {"01>10", lineWord(399, 300), lineWord(399, 0), 999, "false 5"},
	} {
		what := show(c.list, c.a, c.b, c.budget) + " "
		expect(t, what+show(impl.AreJoinable(rewritesOf(t, c.list), c.a, c.b, c.budget)), what+c.want)
	}
}

func TestPromise11SearchBudgets(t *testing.T) {
	for _, s := range someRewriteTexts {
		list := rewritesOf(t, s)
		for _, w := range [][]int64{nil, {0}, {1, 1, 0}, repeat(0, 400)} {
			for _, budget := range []int64{0, -1, impl.MaxBudget + 1, 1 << 32, math.MinInt64, math.MaxInt64} {
				expect(t, show(impl.ReachWords(list, w, budget)), "[] false 2")
				expect(t, show(impl.NormalFormsOf(list, w, budget)), "[] false 2")
				expect(t, show(impl.DerivationOf(list, w, w, budget)), "[] 2")
				expect(t, show(impl.AreJoinable(list, w, w, budget)), "false 2")
			}
			for _, budget := range []int64{1, impl.MaxBudget} {
				_, _, code := impl.ReachWords(list, w, budget)
				expect(t, show(code), "0")
			}
		}
	}
}

// Each word that a search finds has a derivation that is accepted, unless it is too far away; none is nearer than one before it.
func TestPromise11FoundDerivationsAreAccepted(t *testing.T) {
	accepted := 0
	forSomeRewrites(215, 150, 0, func(random *rand.Rand, list []impl.Rewrite, w []int64) {
		budget := 1 + random.Int63n(60)
		words, _, code := impl.ReachWords(list, w, budget)
		expect(t, show(code), "0")
		nearest := 0
		for _, to := range words {
			steps, code := impl.DerivationOf(list, w, to, budget)
			if code == impl.ErrFull {
				continue
			}
			expect(t, show(impl.CheckDerivation(list, w, steps)), show(to, impl.OK))
			if len(steps) < nearest || code != impl.OK {
				t.Errorf("%s: the derivation of %v from %v has %d steps, and an earlier word %d; code %d", impl.RewritesText(list), to, w, len(steps), nearest, code)
			}
			nearest = len(steps)
			accepted++
		}
	})
	if accepted < 3000 {
		t.Errorf("only %d derivations are accepted", accepted)
	}
}

// decreasingRewrites returns rules with at most two letters on each side, which lead to words that are before in shortlex
// order, so that no run is endless.
func decreasingRewrites(random *rand.Rand, letters int) []impl.Rewrite {
	var list []impl.Rewrite
	for many := 1 + random.Intn(4); len(list) < many; {
		from, to := someTagWord(random, letters, 1+random.Intn(2)), someTagWord(random, letters, random.Intn(3))
		if impl.CompareShortlex(to, from) < 0 {
			list = append(list, rewrite(from, to))
		}
	}
	return list
}

// As no From of two letters has another one only within it, such rules are confluent exactly if both results of each overlap
// lead to one word.
func TestPromise11ConfluentRules(t *testing.T) {
	var confluent, others int
	random := rand.New(rand.NewSource(216))
	for range 300 {
		letters := 2 + random.Intn(2)
		list := decreasingRewrites(random, letters)
		overlaps, code := impl.OverlapsOf(list)
		expect(t, show(code), "0")
		split := slices.IndexFunc(overlaps, func(o [][]int64) bool {
			joinable, code := impl.AreJoinable(list, o[1], o[2], impl.MaxBudget)
			expect(t, show(code), "0")
			return !joinable
		})
		if split >= 0 {
			others++
			normal, complete, code := impl.NormalFormsOf(list, overlaps[split][0], impl.MaxBudget)
			expect(t, show(impl.RewritesText(list), len(normal) > 1, complete, code), show(impl.RewritesText(list), true, true, impl.OK))
			continue
		}
		confluent++
		for _, w := range allWords(int64(letters), 4) {
			normal, complete, code := impl.NormalFormsOf(list, w, impl.MaxBudget)
			expect(t, show(impl.RewritesText(list), w, len(normal), complete, code), show(impl.RewritesText(list), w, 1, true, impl.OK))
			expectOneEnd(t, random, list, w, normal[0])
		}
	}
	if confluent < 60 || others < 60 {
		t.Errorf("%d lists are confluent, and %d are not", confluent, others)
	}
}

// expectOneEnd makes any steps from a word as long as there are some, which must lead to its only normal word.
func expectOneEnd(t *testing.T, random *rand.Rand, list []impl.Rewrite, w, normal []int64) {
	t.Helper()
	last := w
	for !impl.IsNormalWord(list, last) {
		next, code := impl.SuccessorsOf(list, last)
		expect(t, show(code), "0")
		last = next[random.Intn(len(next))]
	}
	expect(t, show(last), show(normal))
	expect(t, show(impl.AreJoinable(list, w, normal, impl.MaxBudget)), "true 0")
}

// Rules that exchange neighbours sort a word.
func TestPromise11SortedWords(t *testing.T) {
	list := rewritesOf(t, "10>01 20>02 21>12")
	overlaps, code := impl.OverlapsOf(list)
	expect(t, show(overlaps, code), "[[[2 1 0] [1 2 0] [2 0 1]]] 0")
	for _, w := range allWords(3, 5) {
		expect(t, show(impl.NormalFormsOf(list, w, impl.MaxBudget)), show([][]int64{impl.SortList(w)}, true, impl.OK))
		steps, code := impl.DerivationOf(list, w, impl.SortList(w), impl.MaxBudget)
		inversions := 0
		for i, a := range w {
			for _, b := range w[i:] {
				inversions += btoi(b < a)
			}
		}
		expect(t, show(w, len(steps), code), show(w, inversions, impl.OK))
		expect(t, show(impl.CheckDerivation(list, w, steps)), show(impl.SortList(w), impl.OK))
	}
}
