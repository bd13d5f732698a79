package tests

import (
	"fmt"
	"math"
	"math/rand"
	"slices"
	"strings"
	"testing"

	"loop.example/g01079/impl"
)

// combSigns are the signs of which texts of combinator terms consist, with some that do not belong there.
const combSigns = "SSKKIIx0139((())) ^s-"

var (
	combApp = impl.Comb{Kind: impl.CombApp}
	combS   = impl.Comb{Kind: impl.CombS}
	combK   = impl.Comb{Kind: impl.CombK}
	combI   = impl.Comb{Kind: impl.CombI}
)

func combVar(index int64) impl.Comb { return impl.Comb{Kind: impl.CombVar, Index: index} }

func combOf(t *testing.T, s string) []impl.Comb {
	t.Helper()
	return mustRead(t, impl.ReadComb, s)
}

// combFor returns the application of a combinator term to others, from left to right.
func combFor(c []impl.Comb, args ...[]impl.Comb) []impl.Comb {
	return slices.Concat(slices.Repeat([]impl.Comb{combApp}, len(args)), c, slices.Concat(args...))
}

// longComb returns a combinator term with so many elements, an odd number: a variable that is applied again and again.
func longComb(index int64, elements int) []impl.Comb {
	x := []impl.Comb{combVar(index)}
	return combFor(x, slices.Repeat([][]impl.Comb{x}, elements/2)...)
}

// deepComb returns one in which the last element is in all applications.
func deepComb(index int64, elements int) []impl.Comb {
	return append(slices.Repeat([]impl.Comb{combApp, combVar(index)}, elements/2), combVar(index))
}

// badCombs returns lists that are no combinator terms, each for another reason.
func badCombs() [][]impl.Comb {
	all := [][]impl.Comb{
		nil, {}, {combApp}, {combApp, combApp}, {combApp, combS}, {combApp, combApp, combS, combK}, {combS, combK}, {combI, combApp}, {combApp, combS, combK, combI}, {combVar(0), combVar(0)}, {combVar(0), combApp, combI, combI}, {combS, combApp, combI},
		longComb(0, mostElements+1), longComb(3, 1001), deepComb(0, mostElements+1), longComb(0, mostElements+1)[1:], longComb(0, mostElements+1)[:mostElements], append(longComb(0, mostElements-1), combI), slices.Repeat([]impl.Comb{combApp}, 100000), slices.Repeat([]impl.Comb{combI}, mostElements), deepComb(0, 100001),
	}
	for _, bad := range []impl.Comb{
		{Kind: -1}, {Kind: 5}, {Kind: 6}, {Kind: math.MinInt64}, {Kind: math.MaxInt64}, {Kind: 1 << 32}, {Kind: 5, Index: 1}, {Kind: -1, Index: -1},
		combVar(-1), combVar(mostIndex + 1), combVar(mostIndex + 2), combVar(math.MinInt64), combVar(math.MaxInt64), combVar(1 << 32),
	} {
		all = append(all, []impl.Comb{bad}, []impl.Comb{combApp, bad, combI}, []impl.Comb{combApp, combI, bad}, append(longComb(0, mostElements-1)[:mostElements-2], bad))
	}
	for _, index := range []int64{-1, 1, mostIndex, 1 << 32, math.MinInt64, math.MaxInt64} {
		for kind := range int64(4) {
			bad := impl.Comb{Kind: kind, Index: index}
			if kind == impl.CombApp {
				all = append(all, []impl.Comb{bad, combI, combI}, []impl.Comb{combApp, bad, combI, combI, combI})
			} else {
				all = append(all, []impl.Comb{bad}, []impl.Comb{combApp, bad, combI}, []impl.Comb{combApp, combI, bad})
			}
		}
	}
	return all
}

// someCombTexts are those of combinator terms of all kinds, some without an end.
var someCombTexts = []string{
	"S", "K", "I", "x0", "x399", "(I x0)", "((K x0) x1)", "(K x0)", "((S K) K)", "(((S K) K) x0)", "(((S I) I) ((S I) I))", "(((S x0) x1) x2)", "((((S x0) x1) x2) x3)", "(x0 (I x1))", "((I I) (I I))", "((((S (K S)) K) x0) x1)", "(((S ((S I) I)) I) ((S ((S I) I)) I))", "((K I) (((S I) I) ((S I) I)))",
}

func sampleCombs() [][]impl.Comb {
	bad := slices.DeleteFunc(badCombs(), func(c []impl.Comb) bool { return len(c) > mostElements+1 })
	all := append(bad[:30], longComb(0, mostElements-1), deepComb(mostIndex, mostElements-1), combFor([]impl.Comb{combS}, longComb(0, 5), longComb(1, 7), longComb(2, 191)), combFor([]impl.Comb{combS}, longComb(0, 5), longComb(1, 7), longComb(2, 197)))
	for _, s := range someCombTexts {
		c, _ := impl.ReadComb(s)
		all = append(all, c)
	}
	return all
}

// combLength returns how many elements belong to the combinator term with which a list begins, and 0 if there is none.
func combLength(c []impl.Comb) int {
	missing := 1
	for at, e := range c {
		switch {
		case e.Kind == 0 && e.Index == 0:
			missing++
		case e.Kind >= 1 && e.Kind <= 3 && e.Index == 0, e.Kind == 4 && e.Index >= 0 && e.Index <= mostIndex:
			missing--
		default:
			return 0
		}
		if missing == 0 {
			return at + 1
		}
	}
	return 0
}

func plainValidComb(c []impl.Comb) bool {
	return len(c) >= 1 && len(c) <= mostElements && combLength(c) == len(c)
}

// plainCombText returns the text of a valid combinator term.
func plainCombText(c []impl.Comb) string {
	switch c[0].Kind {
	case 1:
		return "S"
	case 2:
		return "K"
	case 3:
		return "I"
	case 4:
		return fmt.Sprint("x", c[0].Index)
	}
	behind := 1 + combLength(c[1:])
	return "(" + plainCombText(c[1:behind]) + " " + plainCombText(c[behind:]) + ")"
}

// plainCombIn returns the combinator term with which a text begins, and what stands behind it.
func plainCombIn(s string) ([]impl.Comb, string, bool) {
	for sign, c := range map[string]impl.Comb{"S": combS, "K": combK, "I": combI} {
		if rest, has := strings.CutPrefix(s, sign); has {
			return []impl.Comb{c}, rest, true
		}
	}
	if digits, has := strings.CutPrefix(s, "x"); has {
		rest := strings.TrimLeft(digits, "0123456789")
		index, ok := plainIndex(strings.TrimSuffix(digits, rest))
		return []impl.Comb{combVar(index)}, rest, ok
	}
	inner, has := strings.CutPrefix(s, "(")
	if !has {
		return nil, s, false
	}
	f, rest, function := plainCombIn(inner)
	inner, blank := strings.CutPrefix(rest, " ")
	if !function || !blank {
		return nil, s, false
	}
	a, rest, argument := plainCombIn(inner)
	rest, closed := strings.CutPrefix(rest, ")")
	return combFor(f, a), rest, argument && closed
}

// expectCombRead checks that a text is read as plainCombIn does, and reports whether it is one.
func expectCombRead(t *testing.T, s string) bool {
	t.Helper()
	// No element makes a text longer by more than this.
	fits := len(s) <= 5*mostElements
	var c []impl.Comb
	if fits {
		var rest string
		var ok bool
		c, rest, ok = plainCombIn(s)
		fits = ok && rest == "" && len(c) <= mostElements
	}
	if !fits {
		got, ok := impl.ReadComb(s)
		expect(t, fmt.Sprintf("%.80q %v %v", s, got, ok), fmt.Sprintf("%.80q [] false", s))
		return false
	}
	expect(t, show(s, show(impl.ReadComb(s))), show(s, show(c, true)))
	expect(t, impl.CombText(c), s)
	return true
}

// allCombs returns, for each number of elements up to the last one, all combinator terms with variables below a limit.
func allCombs(most int, indices int64) [][][]impl.Comb {
	all := make([][][]impl.Comb, most+1)
	all[1] = [][]impl.Comb{{combS}, {combK}, {combI}}
	for index := range indices {
		all[1] = append(all[1], []impl.Comb{combVar(index)})
	}
	for elements := 3; elements <= most; elements += 2 {
		for own := 1; own < elements-1; own += 2 {
			for _, f := range all[own] {
				for _, a := range all[elements-1-own] {
					all[elements] = append(all[elements], combFor(f, a))
				}
			}
		}
	}
	return all
}

// smallCombs returns all combinator terms with at most so many elements.
func smallCombs(most int, indices int64) [][]impl.Comb {
	return slices.Concat(allCombs(most, indices)...)
}

// someComb returns a combinator term with so many elements, an odd number.
func someComb(random *rand.Rand, elements int) []impl.Comb {
	if elements == 1 {
		return [][]impl.Comb{{combS}, {combS}, {combK}, {combI}, {combVar(random.Int63n(3))}}[random.Intn(5)]
	}
	// More elements before than behind make more forms.
	own := 1 + 2*max(random.Intn(elements/2), random.Intn(elements/2))
	return combFor(someComb(random, own), someComb(random, elements-1-own))
}

// forSomeCombs checks many combinator terms with at most so many elements.
func forSomeCombs(seed int64, many, most int, check func(random *rand.Rand, c []impl.Comb)) {
	random := rand.New(rand.NewSource(seed))
	for range many {
		check(random, someComb(random, 1+2*random.Intn((most+1)/2)))
	}
}

// combForm returns what stands in the place of a form at the beginning of a list, and what is behind it, if there is one.
func combForm(c []impl.Comb) (next, rest []impl.Comb, ok bool) {
	applications := 0
	for applications < len(c) && c[applications] == combApp {
		applications++
	}
	if applications == len(c) {
		return nil, nil, false
	}
	head, rest := c[applications], c[applications+1:]
	var args [][]impl.Comb
	for range applications {
		length := combLength(rest)
		args, rest = append(args, rest[:length]), rest[length:]
	}
	switch {
	case head == combI && applications == 1, head == combK && applications == 2:
		return args[0], rest, true
	case head == combS && applications == 3:
		x, y, z := args[0], args[1], args[2]
		return combFor(combFor(x, z), combFor(y, z)), rest, true
	}
	return nil, nil, false
}

// plainCombStep returns what CombStep does for a valid combinator term.
func plainCombStep(c []impl.Comb) ([]impl.Comb, int64) {
	for at := range c {
		next, rest, ok := combForm(c[at:])
		if !ok {
			continue
		}
		whole := slices.Concat(c[:at], next, rest)
		if !plainValidComb(whole) {
			return nil, impl.ErrFull
		}
		return whole, impl.OK
	}
	return nil, impl.ErrState
}

// expectCombStep compares a step with the model, and returns what is behind it and the code.
func expectCombStep(t *testing.T, c []impl.Comb) ([]impl.Comb, int64) {
	t.Helper()
	next, code := plainCombStep(c)
	expect(t, show(c, show(impl.CombStep(c))), show(c, show(next, code)))
	return next, code
}

// expectCombRun compares single steps and runs with all budgets up to a limit with the model, and returns the last code.
func expectCombRun(t *testing.T, c []impl.Comb, most int64) int64 {
	t.Helper()
	present := c
	code := int64(impl.OK)
	var made int64
	for budget := int64(1); budget <= most; budget++ {
		if code == impl.OK {
			var next []impl.Comb
			if next, code = expectCombStep(t, present); code == impl.OK {
				present, made = next, made+1
			}
		}
		want := show([]impl.Comb{}, 0, false, impl.ErrFull)
		if code != impl.ErrFull {
			_, last := plainCombStep(present)
			want = show(present, made, last == impl.ErrState, impl.OK)
		}
		expect(t, show(c, budget, show(impl.RunComb(c, budget))), show(c, budget, want))
	}
	return code
}

func TestPromise13ValidCombs(t *testing.T) {
	for i, c := range badCombs() {
		if impl.ValidComb(c) || plainValidComb(c) {
			t.Errorf("the combinator term %d is valid: %v", i, c)
		}
		expect(t, show(i, impl.CombText(c)), show(i, ""))
	}
	for _, index := range []int64{0, 1, mostIndex - 1, mostIndex} {
		for _, c := range [][]impl.Comb{{combVar(index)}, {combApp, combVar(index), combI}, {combApp, combI, combVar(index)}} {
			expect(t, show(c, impl.ValidComb(c)), show(c, true))
		}
	}
	var elements []impl.Comb
	for kind := int64(-1); kind <= 5; kind++ {
		for index := int64(-1); index <= 1; index++ {
			elements = append(elements, impl.Comb{Kind: kind, Index: index})
		}
	}
	lists := [][]impl.Comb{nil}
	valid := 0
	for range 3 {
		var longer [][]impl.Comb
		for _, list := range lists {
			for _, e := range elements {
				longer = append(longer, append(slices.Clone(list), e))
			}
		}
		for _, c := range longer {
			if got := impl.ValidComb(c); got != plainValidComb(c) {
				t.Errorf("%v: valid is %v", c, got)
			} else if got {
				valid++
			}
		}
		lists = longer
	}
	if valid != len(smallCombs(3, 2)) {
		t.Errorf("%d combinator terms are valid, want %d", valid, len(smallCombs(3, 2)))
	}
	for elements := mostElements - 5; elements <= mostElements+5; elements += 2 {
		for _, c := range [][]impl.Comb{longComb(7, elements), deepComb(mostIndex, elements)} {
			fits := elements <= mostElements
			text := plainCombText(c)
			expect(t, show(len(c), impl.ValidComb(c)), show(elements, fits))
			expect(t, show(elements, expectCombRead(t, text)), show(elements, fits))
		}
	}
}

// A combinator term in which one thing is changed is mostly none.
func TestPromise13ChangedCombs(t *testing.T) {
	valid, read := map[bool]int{}, map[bool]int{}
	check := func(c []impl.Comb) {
		t.Helper()
		got := impl.ValidComb(c)
		valid[got]++
		expect(t, show(c, got), show(c, plainValidComb(c)))
	}
	forSomeCombs(270, 2000, 31, func(random *rand.Rand, c []impl.Comb) {
		check(c)
		at := random.Intn(len(c))
		changed := slices.Clone(c)
		changed[at] = impl.Comb{Kind: c[at].Kind + random.Int63n(3) - 1, Index: c[at].Index + random.Int63n(3) - 1}
		check(changed)
		check(slices.Delete(slices.Clone(c), at, at+1))
		check(slices.Insert(slices.Clone(c), at, []impl.Comb{combApp, combI, combVar(3)}[random.Intn(3)]))
		check(slices.Concat(c, c[at:]))
		check(c[:at])
		check(c[at:])
		check(c[at : at+combLength(c[at:])])
		s := plainCombText(c)
		at = random.Intn(len(s))
		sign := string(combSigns[random.Intn(len(combSigns))])
		for _, changed := range []string{s[:at] + s[at+1:], s[:at] + sign + s[at:], s[:at] + sign + s[at+1:], s[:at], s[at:], s + s[at:], s[:at] + " " + s[at:], s + " "} {
			read[expectCombRead(t, changed)]++
		}
	})
	if valid[true] < 4000 || valid[false] < 4000 || read[true] < 300 || read[false] < 5000 {
		t.Errorf("combinator terms that are valid and others: %v, texts that are read and others: %v", valid, read)
	}
}

// Combinator terms are read from their texts.
func TestPromise13CombTexts(t *testing.T) {
	for _, c := range smallCombs(7, 2) {
		text := plainCombText(c)
		expect(t, impl.CombText(c), text)
		expect(t, show(text, show(impl.ReadComb(text))), show(text, show(c, true)))
	}
	for index := range int64(mostIndex + 1) {
		c := []impl.Comb{combApp, combVar(index), combVar(mostIndex - index)}
		text := fmt.Sprintf("(x%d x%d)", index, mostIndex-index)
		expect(t, impl.CombText(c), text)
		expect(t, show(impl.ReadComb(text)), show(c, true))
	}
	forSomeCombs(271, 1000, mostElements, func(_ *rand.Rand, c []impl.Comb) {
		text := plainCombText(c)
		expect(t, impl.CombText(c), text)
		expect(t, show(text, show(impl.ReadComb(text))), show(text, show(c, true)))
	})
}

func TestPromise13OtherCombTexts(t *testing.T) {
	for _, s := range []string{
		"", " ", "(", ")", "()", "( )", "(S)", "(S )", "( S)", "(S K", "S K", "(S K))", "((S K)", "(S K I)", "(S  K)", "(S K) ", " (S K)", "( S K)", "(S K )", "S)", "SK", "(SK)", "(S,K)", "(S\tK)", "s", "k", "i", "(s K)", "B", "C", "W", "Y", "SKI", "S0", "x", "X0", "x 0", "(x x)", "(x0 x)", "(x x0)", "0", "7", "(S 0)", "(0 S)", "xx", "x0x1", "x0 x1", "x0x", "xS", "(x0x1)",
		"x400", "x401", "x1000", "x00", "x01", "x007", "x+1", "x-0", "x-1", "x0x1", "x1.0", "(x400 S)", "(S x400)", "x9223372036854775808", "x18446744073709551616", "x\uff10", "x0\x00", "\x00", "\xff", "(S \u00e9)", "^x0", "^0", "^S", "(^x0 S)", "(S ^0)", "^^x1",
		"x" + strings.Repeat("9", 100000), "x" + strings.Repeat("0", 100000), strings.Repeat("x", 100000), strings.Repeat("S", 100000), strings.Repeat("(", 100000), strings.Repeat(")", 100000), strings.Repeat(" ", 100000), strings.Repeat("(I ", 50000) + "I" + strings.Repeat(")", 50000), strings.Repeat("(", 50000) + "I" + strings.Repeat(" I)", 50000), "S" + strings.Repeat(" ", mostElements),
	} {
		if expectCombRead(t, s) {
			t.Errorf("%.80q is a text", s)
		}
	}
	texts := []string{""}
	read := 0
	for range 6 {
		var longer []string
		for _, s := range texts {
			for _, sign := range "SIx0() " {
				longer = append(longer, s+string(sign))
			}
		}
		for _, s := range longer {
			if expectCombRead(t, s) {
				read++
			}
		}
		texts = longer
	}
	// There are S, I and x0, and applications of them, but not one of x0 to itself, which is longer.
	expect(t, show(read), show(3+8))
}

// Each combinator with just enough arguments, with one less, and with one more.
func TestPromise13Combinators(t *testing.T) {
	t.Parallel()
	for _, c := range []struct{ text, want string }{
		{"I", ""}, {"(I x0)", "x0"}, {"((I x0) x1)", "(x0 x1)"}, {"(I (I x0))", "(I x0)"}, {"(I I)", "I"}, {"((I I) I)", "(I I)"},
		{"K", ""}, {"(K x0)", ""}, {"((K x0) x1)", "x0"}, {"(((K x0) x1) x2)", "(x0 x2)"}, {"((K K) K)", "K"}, {"(((K I) x0) x1)", "(I x1)"}, {"(K (I x0))", "(K x0)"}, {"(K ((K x0) x1))", "(K x0)"},
		{"S", ""}, {"(S x0)", ""}, {"((S x0) x1)", ""}, {"(((S x0) x1) x2)", "((x0 x2) (x1 x2))"}, {"((((S x0) x1) x2) x3)", "(((x0 x2) (x1 x2)) x3)"}, {"((S S) S)", ""}, {"(((S S) S) S)", "((S S) (S S))"}, {"(((S K) K) x0)", "((K x0) (K x0))"}, {"((S (I x0)) x1)", "((S x0) x1)"}, {"((S x0) (I x1))", "((S x0) x1)"},
		{"x0", ""}, {"(x0 x1)", ""}, {"((x0 I) K)", ""}, {"(x0 (I x1))", "(x0 x1)"}, {"((x0 (I x1)) (I x2))", "((x0 x1) (I x2))"}, {"(((x0 x1) x2) (K I))", ""}, {"((x0 (K I)) S)", ""},
		// Forms that begin inside of others, and beside them: the first one counts.
		{"((K (I x0)) (I x1))", "(I x0)"}, {"(((S (I x0)) (I x1)) (I x2))", "(((I x0) (I x2)) ((I x1) (I x2)))"}, {"((I (I x0)) (I x1))", "((I x0) (I x1))"}, {"((K (I x0)) x1)", "(I x0)"}, {"((I K) (I x0))", "(K (I x0))"}, {"(((I K) x0) x1)", "((K x0) x1)"}, {"((((I S) x0) x1) x2)", "(((S x0) x1) x2)"}, {"((((K S) x0) x1) x2)", "((S x1) x2)"}, {"(((((K S) x0) x1) x2) x3)", "(((S x1) x2) x3)"}, {"((((S x0) x1) (I x2)) (I x3))", "(((x0 (I x2)) (x1 (I x2))) (I x3))"}, {"((x0 ((K x1) x2)) (((S x3) x4) x5))", "((x0 x1) (((S x3) x4) x5))"},
	} {
		list := combOf(t, c.text)
		want := show([]impl.Comb{}, impl.ErrState)
		if c.want != "" {
			want = show(combOf(t, c.want), impl.OK)
		} else {
			expect(t, show(c.text, show(impl.RunComb(list, 1))), show(c.text, show(list, 0, true, impl.OK)))
		}
		expect(t, show(c.text, show(impl.CombStep(list))), show(c.text, want))
		expectCombStep(t, list)
	}
	codes := map[int64]int{}
	for _, c := range smallCombs(9, 2) {
		_, code := expectCombStep(t, c)
		codes[code]++
	}
	forSomeCombs(272, 1500, mostElements, func(_ *rand.Rand, c []impl.Comb) {
		_, code := expectCombStep(t, c)
		codes[code]++
	})
	if codes[impl.OK] < 5000 || codes[impl.ErrState] < 1000 || codes[impl.ErrFull] < 10 {
		t.Errorf("steps with the codes 0, 5 and 6: %v", codes)
	}
}

// A step makes a term as long as it can be, or longer by two.
func TestPromise13CombStepsAtLimits(t *testing.T) {
	s := []impl.Comb{combS}
	for _, c := range []struct {
		elements [3]int
		around   int
		fits     bool
	}{
		// The term has 4 elements beside the arguments, and what follows has 3 and the last argument twice.
		{[3]int{1, 1, 197}, 0, true}, {[3]int{1, 1, 197}, 1, false}, {[3]int{1, 1, 199}, 0, false}, {[3]int{1, 1, 195}, 2, true}, {[3]int{1, 1, 195}, 3, false}, {[3]int{1, 3, 195}, 1, true}, {[3]int{3, 3, 195}, 0, true}, {[3]int{3, 3, 195}, 1, false}, {[3]int{3, 5, 195}, 0, false}, {[3]int{5, 3, 195}, 0, false}, {[3]int{199, 3, 97}, 0, true}, {[3]int{3, 199, 97}, 0, true}, {[3]int{199, 5, 97}, 0, false}, {[3]int{5, 199, 97}, 0, false}, {[3]int{197, 197, 1}, 0, true}, {[3]int{197, 195, 1}, 1, true}, {[3]int{1, 1, 1}, 195, true},
	} {
		form := combFor(s, longComb(0, c.elements[0]), longComb(1, c.elements[1]), longComb(2, c.elements[2]))
		want := int64(impl.OK)
		if !c.fits {
			want = impl.ErrFull
		}
		x := []impl.Comb{combVar(0)}
		first := combFor(form, slices.Repeat([][]impl.Comb{x}, c.around)...)
		last := append(slices.Repeat([]impl.Comb{combApp, combVar(0)}, c.around), form...)
		for _, list := range [][]impl.Comb{first, last} {
			_, code := expectCombStep(t, list)
			expect(t, show(c, code), show(c, want))
			expectCombRun(t, list, 2)
		}
	}
	expectCombStep(t, combFor([]impl.Comb{combK}, longComb(1, 395), []impl.Comb{combI}))
	expectCombStep(t, combFor([]impl.Comb{combI}, longComb(1, 397)))
}

func TestPromise13CombRuns(t *testing.T) {
	t.Parallel()
	for _, s := range someCombTexts {
		expectCombRun(t, combOf(t, s), 15)
	}
	ends := map[int64]int{}
	for _, c := range smallCombs(7, 1) {
		ends[expectCombRun(t, c, 4)]++
	}
	forSomeCombs(273, 700, 61, func(_ *rand.Rand, c []impl.Comb) { ends[expectCombRun(t, c, 20)]++ })
	random := rand.New(rand.NewSource(274))
	for range 700 {
		// Terms that are applied to themselves have an end less often.
		c := someComb(random, 5+2*random.Intn(15))
		ends[expectCombRun(t, combFor(c, c, c), 20)]++
	}
	if ends[impl.OK] < 20 || ends[impl.ErrState] < 500 || ends[impl.ErrFull] < 5 {
		t.Errorf("runs that end with the codes 0, 5 and 6: %v", ends)
	}
	for _, c := range []struct {
		text, want string
		steps      int64
	}{
		{"(((S K) K) x0)", "x0", 2}, {"((((S (K S)) K) x0) x1)", "((S (K x0)) x1)", 0}, {"(((((S (K S)) K) x0) x1) x2)", "(x0 (x1 x2))", 4}, {"((K x0) (((S I) I) ((S I) I)))", "x0", 1}, {"((((S ((S (K S)) K)) (K K)) x0) x1)", "", 0},
	} {
		list := combOf(t, c.text)
		last, steps, normal, code := impl.RunComb(list, impl.MaxBudget)
		expect(t, show(c.text, normal, code), show(c.text, true, impl.OK))
		if c.steps > 0 {
			expect(t, show(c.text, impl.CombText(last), steps), show(c.text, c.want, c.steps))
		}
		expectCombRun(t, list, 12)
	}
}

// A run may end with exactly as many steps as the budget.
func TestPromise13CombBudgets(t *testing.T) {
	t.Parallel()
	for _, steps := range []int64{1, 2, 3, 100, 198, 199} {
		c := []impl.Comb{combVar(9)}
		for range steps {
			c = combFor([]impl.Comb{combI}, c)
		}
		last := show([]impl.Comb{combVar(9)}, steps, true, impl.OK)
		for _, budget := range []int64{steps, steps + 1, impl.MaxBudget} {
			expect(t, show(steps, budget, show(impl.RunComb(c, budget))), show(steps, budget, last))
		}
		if steps > 1 {
			expect(t, show(impl.RunComb(c, steps-1)), show(combFor([]impl.Comb{combI}, []impl.Comb{combVar(9)}), steps-1, false, impl.OK))
		}
	}
	// These have no end; the first one becomes longer so slowly that it makes many steps.
	for _, s := range []string{"(((S I) I) ((S I) I))", "((((S S) S) ((S S) S)) ((S S) S))", "(x0 (((S I) I) ((S I) I)))"} {
		growing := combOf(t, s)
		present, made := growing, int64(0)
		for {
			next, code := impl.CombStep(present)
			if code != impl.OK {
				expect(t, show(next, code), "[] 5")
				break
			}
			present, made = next, made+1
		}
		expect(t, show(s, made > 0, plainValidComb(present)), show(s, true, true))
		expect(t, show(impl.RunComb(growing, made)), show(present, made, false, impl.OK))
		expect(t, show(impl.RunComb(growing, made+1)), "[] 0 false 5")
		expect(t, show(impl.RunComb(growing, impl.MaxBudget)), "[] 0 false 5")
	}
}

func TestPromise13CombErrors(t *testing.T) {
	for i, c := range badCombs() {
		expect(t, show(i, show(impl.CombStep(c))), show(i, "[] 1"))
		for _, budget := range append([]int64{1, impl.MaxBudget}, badBudgets...) {
			expect(t, show(i, show(impl.RunComb(c, budget))), show(i, "[] 0 false 1"))
		}
	}
	for _, s := range someCombTexts {
		c := combOf(t, s)
		for _, budget := range badBudgets {
			expect(t, show(s, budget, show(impl.RunComb(c, budget))), show(s, budget, "[] 0 false 2"))
		}
	}
	for _, budget := range badBudgets {
		full := combFor([]impl.Comb{combS}, longComb(0, 1), longComb(0, 1), longComb(0, 197))
		expect(t, show(budget, show(impl.RunComb(full, budget))), show(budget, "[] 0 false 2"))
	}
}
