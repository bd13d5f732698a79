package tests

import (
	"math"
	"math/rand"
	"slices"
	"strings"
	"testing"

	"loop.example/g01079/impl"
)

// step makes a step at the first redex, and reports whether there is one.
func (n *namer) step(x *namedLam) bool {
	if x.kind == impl.LamApp && x.parts[0].kind == impl.LamAbs {
		f := x.parts[0]
		*x = *n.with(f.parts[0], map[string]*namedLam{f.name: x.parts[1]})
		return true
	}
	return slices.ContainsFunc(x.parts, n.step)
}

// plainBeta returns what BetaStep does for a valid term.
func plainBeta(x []impl.Lam) ([]impl.Lam, int64) {
	n := new(namer)
	named := n.named(x)
	if !n.step(named) {
		return nil, impl.ErrState
	}
	next := named.list()
	if !plainValidLam(next) {
		return nil, impl.ErrFull
	}
	return next, impl.OK
}

// expectBeta compares a step with the model, and returns what is behind it and the code.
func expectBeta(t *testing.T, x []impl.Lam) ([]impl.Lam, int64) {
	t.Helper()
	next, code := plainBeta(x)
	expect(t, show(x, show(impl.BetaStep(x)), impl.IsNormalLam(x)), show(x, show(next, code), code == impl.ErrState))
	return next, code
}

// expectNormalization compares single steps and runs with all budgets up to a limit with the model, and returns the last code.
func expectNormalization(t *testing.T, x []impl.Lam, most int64) int64 {
	t.Helper()
	present := x
	code := int64(impl.OK)
	var made int64
	for budget := int64(1); budget <= most; budget++ {
		if code == impl.OK {
			var next []impl.Lam
			if next, code = expectBeta(t, present); code == impl.OK {
				present, made = next, made+1
			}
		}
		want := show([]impl.Lam{}, 0, false, impl.ErrFull)
		if code != impl.ErrFull {
			want = show(present, made, code == impl.ErrState || impl.IsNormalLam(present), impl.OK)
		}
		expect(t, show(x, budget, show(impl.NormalizeLam(x, budget))), show(x, budget, want))
	}
	return code
}

// normalText returns the text of the normal term to which steps lead, and the number of steps.
func normalText(t *testing.T, x []impl.Lam) string {
	t.Helper()
	last, steps, normal, code := impl.NormalizeLam(x, impl.MaxBudget)
	if !normal || code != impl.OK {
		t.Errorf("%v is not normal behind %d steps: %d", x, steps, code)
	}
	return show(impl.LamText(last), steps)
}

func TestPromise13Example(t *testing.T) {
	x := lamOf(t, "(^(0 0) ^0)")
	next, code := impl.BetaStep(x)
	expect(t, show(impl.LamText(next), code, impl.IsNormalLam(next)), `"(^0 ^0)" 0 false`)
	next, code = impl.BetaStep(next)
	expect(t, show(impl.LamText(next), code, impl.IsNormalLam(next)), `"^0" 0 true`)
	expect(t, show(impl.BetaStep(next)), "[] 6")
	expect(t, normalText(t, x), `"^0" 2`)
	two, code := impl.NumeralLam(2)
	expect(t, show(impl.LamText(two), code), `"^^(1 (1 0))" 0`)
	c, ok := impl.ReadComb("(((S K) K) x0)")
	d, code := impl.CombStep(c)
	expect(t, show(ok, impl.CombText(d), code), `true "((K x0) (K x0))" 0`)
	d, code = impl.CombStep(d)
	expect(t, show(impl.CombText(d), code), `"x0" 0`)
	expect(t, show(impl.CombStep(d)), "[] 6")
}

func TestPromise13Steps(t *testing.T) {
	for _, c := range []struct{ text, want string }{
		// The argument is put below abstractions, and what is free around the abstraction comes nearer.
		{"(^0 5)", "5"}, {"(^1 5)", "0"}, {"(^7 5)", "6"}, {"(^^0 5)", "^0"}, {"(^^1 5)", "^6"}, {"(^^2 5)", "^1"}, {"(^^3 5)", "^2"}, {"(^^^2 5)", "^^7"}, {"(^^^3 5)", "^^2"}, {"(^^^1 5)", "^^1"}, {"(^^(1 (0 2)) 0)", "^(1 (0 1))"}, {"(^^(1 ^(2 (1 (0 3)))) (0 ^1))", "^((1 ^2) ^((2 ^3) (1 (0 2))))"},
		{"^(^1 0)", "^0"}, {"^(^0 0)", "^0"}, {"^(^^2 0)", "^^1"}, {"^(^^1 0)", "^^1"}, {"^^(^(0 (1 (2 3))) 1)", "^^(1 (0 (1 2)))"}, {"^(0 (^(0 1) 0))", "^(0 (0 0))"}, {"(^(0 ^(1 0)) ^(1 0))", "(^(1 0) ^(^(2 0) 0))"},
		// The first one of several redexes, also if it is inside of another one or beside it.
		{"((^0 1) (^0 2))", "(1 (^0 2))"}, {"(0 (^0 2))", "(0 2)"}, {"((0 (^0 1)) (^0 2))", "((0 1) (^0 2))"}, {"(^(^0 0) (^0 3))", "(^0 (^0 3))"}, {"(^(^1 0) 3)", "(^4 3)"}, {"(^3 (^(0 0) ^(0 0)))", "2"}, {"((^^1 4) 5)", "(^5 5)"}, {"((^(0 0) ^(0 0)) (^0 1))", "((^(0 0) ^(0 0)) (^0 1))"}, {"^^(0 ((^0 (^0 1)) 2))", "^^(0 ((^0 1) 2))"}, {"(0 ^(^0 1))", "(0 ^1)"},
		// What is free in the argument does not become bound, and what is bound there stays so.
		{"(^^1 0)", "^1"}, {"(^^1 ^0)", "^^0"}, {"(^^1 ^1)", "^^2"}, {"^(^^(0 1) 0)", "^^(0 1)"}, {"^(^^(0 (1 2)) 0)", "^^(0 (1 1))"}, {"^(^^1 (0 ^(0 1)))", "^^(1 ^(0 2))"},
	} {
		x := lamOf(t, c.text)
		expect(t, show(c.text, show(impl.BetaStep(x))), show(c.text, show(lamOf(t, c.want), impl.OK)))
		expectBeta(t, x)
	}
	for _, s := range []string{"0", "399", "^0", "^^1", "(0 0)", "(0 ^0)", "((0 ^0) ^1)", "^(0 ^(1 0))", "((0 1) 2)", "(0 (1 2))", "^(0 ^^(0 2))"} {
		x := lamOf(t, s)
		expect(t, show(s, show(impl.BetaStep(x)), impl.IsNormalLam(x)), show(s, "[] 6", true))
		expect(t, show(s, show(impl.NormalizeLam(x, 1))), show(s, show(x, 0, true, impl.OK)))
	}
}

func TestPromise13StepsAsByModel(t *testing.T) {
	t.Parallel()
	codes := map[int64]int{}
	for _, x := range smallLams(8, 3) {
		_, code := expectBeta(t, x)
		codes[code]++
	}
	forSomeLams(256, 3000, 60, func(_ *rand.Rand, x []impl.Lam) {
		_, code := expectBeta(t, x)
		codes[code]++
	})
	forSomeLams(257, 1000, mostElements, func(_ *rand.Rand, x []impl.Lam) {
		_, code := expectBeta(t, x)
		codes[code]++
	})
	if codes[impl.OK] < 3000 || codes[impl.ErrState] < 1000 || codes[impl.ErrFull] < 20 {
		t.Errorf("steps with the codes 0, 5 and 6: %v", codes)
	}
}

// Closed terms stay closed, and no step makes a variable free that has not been so.
func TestPromise13ClosedTerms(t *testing.T) {
	t.Parallel()
	closed := 0
	forSomeLams(258, 4000, 50, func(random *rand.Rand, x []impl.Lam) {
		if random.Intn(2) == 0 {
			// All variables have an Index less than this.
			x = below(60, x)
		}
		for range 10 {
			before, _ := impl.FreeIndices(x)
			next, code := impl.BetaStep(x)
			if code != impl.OK {
				return
			}
			after, _ := impl.FreeIndices(next)
			if impl.IsClosedLam(x) {
				closed++
				expect(t, show(x, impl.IsClosedLam(next)), show(x, true))
			}
			for _, outer := range after {
				if !slices.Contains(before, outer) {
					t.Errorf("%v: %d is free behind a step", x, outer)
				}
			}
			x = next
		}
	})
	if closed < 2000 {
		t.Errorf("only %d steps of closed terms", closed)
	}
}

// withElements returns terms in which a term stands beside or below so many other elements.
func withElements(x []impl.Lam, many int) [][]impl.Lam {
	first := appliedTo(x, slices.Repeat([][]impl.Lam{{lamVar(0)}}, many/2)...)
	last := append(slices.Repeat([]impl.Lam{lamApp, lamVar(0)}, many/2), x...)
	return [][]impl.Lam{below(many, x), below(many%2, first), below(many%2, last)}
}

// A step makes a term as long as it can be, or longer by one; and an Index as great as it can be, or greater by one.
func TestPromise13StepsAtLimits(t *testing.T) {
	for _, c := range []struct {
		body     string
		elements int
		around   int
		fits     bool
	}{
		{"(0 0)", 199, 0, true}, {"(0 0)", 199, 1, true}, {"(0 0)", 199, 2, false}, {"(0 0)", 200, 0, false}, {"((0 0) 1)", 198, 0, true}, {"((0 0) 1)", 198, 1, true}, {"((0 0) 1)", 198, 2, false}, {"((0 0) 1)", 199, 0, false}, {"^(1 1)", 199, 0, true}, {"^(1 1)", 199, 1, false}, {"^(1 1)", 200, 0, false},
		{"((0 0) 0)", 132, 0, true}, {"((0 0) 0)", 132, 2, true}, {"((0 0) 0)", 132, 3, false}, {"((0 0) 0)", 133, 0, false}, {"(0 (0 (0 (0 (0 (0 (0 (0 (0 (0 (0 (0 (0 (0 (0 (0 (0 (0 (0 0)))))))))))))))))))", 19, 1, true}, {"(0 (0 (0 (0 (0 (0 (0 (0 (0 (0 (0 (0 (0 (0 (0 (0 (0 (0 (0 0)))))))))))))))))))", 19, 2, false}, {"1", 397, 0, true}, {"0", 397, 0, true}, {"0", 396, 1, true}, {"^1", 395, 1, true},
	} {
		redex := appliedTo(below(1, lamOf(t, c.body)), longLam(3, c.elements))
		want := int64(impl.OK)
		if !c.fits {
			want = impl.ErrFull
		}
		for _, x := range withElements(redex, c.around) {
			_, code := expectBeta(t, x)
			expect(t, show(c, code), show(c, want))
			expectNormalization(t, x, 2)
		}
	}
	for _, c := range []struct {
		text string
		code int64
	}{
		{"(^^1 398)", 0}, {"(^^1 399)", 5}, {"(^^0 399)", 0}, {"(^^^2 397)", 0}, {"(^^^2 398)", 5}, {"(^(0 ^1) 399)", 5}, {"(^(0 ^1) 398)", 0}, {"(^(0 ^0) 399)", 0}, {"(^399 399)", 0}, {"(^^399 399)", 0}, {"(^^1 ^399)", 5}, {"(^^1 ^398)", 0}, {"(^^1 ^(398 0))", 0}, {"^(^^1 399)", 5}, {"^(^^1 398)", 0}, {"(^0 399)", 0}, {"(^^(0 1) (399 0))", 5},
	} {
		_, code := expectBeta(t, lamOf(t, c.text))
		expect(t, show(c.text, code), show(c.text, c.code))
	}
}

func TestPromise13Normalizations(t *testing.T) {
	t.Parallel()
	for _, c := range []struct {
		text, want string
		steps      int64
	}{
		{"(^(0 0) ^0)", "^0", 2}, {"((^^1 5) (^(0 0) ^(0 0)))", "5", 2}, {"(((^^^((2 0) (1 0)) ^^1) ^^1) 3)", "3", 5}, {"^(^(^(0 1) 0) 0)", "^(0 0)", 2}, {"((^^(1 (1 0)) ^^(1 (1 0))) 7)", "^(8 (8 (8 (8 0))))", 7},
	} {
		x := lamOf(t, c.text)
		expectNormalization(t, x, 10)
		expect(t, show(c.text, normalText(t, x)), show(c.text, show(c.want, c.steps)))
	}
	ends := map[int64]int{}
	for _, x := range smallLams(7, 3) {
		ends[expectNormalization(t, x, 4)]++
	}
	forSomeLams(259, 700, 60, func(_ *rand.Rand, x []impl.Lam) { ends[expectNormalization(t, x, 12)]++ })
	random := rand.New(rand.NewSource(260))
	for range 700 {
		// Terms that are applied to themselves have an end less often.
		x := below(1, someLam(random, 3+random.Intn(25), 1))
		ends[expectNormalization(t, appliedTo(x, x, x), 12)]++
	}
	if ends[impl.OK] < 20 || ends[impl.ErrState] < 1000 || ends[impl.ErrFull] < 10 {
		t.Errorf("runs that end with the codes 0, 5 and 6: %v", ends)
	}
}

// A run may end with exactly as many steps as the budget.
func TestPromise13Budgets(t *testing.T) {
	identity := lamOf(t, "^0")
	for _, steps := range []int64{1, 2, 3, 50, 132, 133} {
		x := []impl.Lam{lamVar(9)}
		for range steps {
			x = appliedTo(identity, x)
		}
		last := show([]impl.Lam{lamVar(9)}, steps, true, impl.OK)
		for _, budget := range []int64{steps, steps + 1, impl.MaxBudget} {
			expect(t, show(steps, budget, show(impl.NormalizeLam(x, budget))), show(steps, budget, last))
		}
		if steps > 1 {
			expect(t, show(impl.NormalizeLam(x, steps-1)), show(appliedTo(identity, []impl.Lam{lamVar(9)}), steps-1, false, impl.OK))
		}
	}
	// Terms that step to themselves, or to one another.
	for _, s := range []string{"(^(0 0) ^(0 0))", "^(^(0 0) ^(0 0))", "(0 (^(0 0) ^(0 0)))", "((^(0 0) ^(0 0)) (^0 1))"} {
		x := lamOf(t, s)
		expect(t, show(s, show(impl.BetaStep(x))), show(s, show(x, impl.OK)))
		for _, budget := range []int64{1, 2, 3, 1000, impl.MaxBudget} {
			expect(t, show(s, budget, show(impl.NormalizeLam(x, budget))), show(s, budget, show(x, budget, false, impl.OK)))
		}
	}
	turning := lamOf(t, "^(^(1 1) 0)")
	both := appliedTo(turning, turning)
	next, _ := expectBeta(t, both)
	again, _ := expectBeta(t, next)
	expect(t, show(again, len(next)), show(both, 24))
	expect(t, show(impl.NormalizeLam(both, impl.MaxBudget)), show(both, impl.MaxBudget, false, impl.OK))
	expect(t, show(impl.NormalizeLam(both, impl.MaxBudget-1)), show(next, impl.MaxBudget-1, false, impl.OK))
	// A term that becomes longer by 7 elements with each step.
	growing := lamOf(t, "(^((0 0) 0) ^((0 0) 0))")
	last, steps, normal, code := impl.NormalizeLam(growing, 55)
	expect(t, show(len(last), steps, normal, code), "398 55 false 0")
	for _, budget := range []int64{56, 57, impl.MaxBudget} {
		expect(t, show(impl.NormalizeLam(growing, budget)), "[] 0 false 5")
	}
	expect(t, show(impl.BetaStep(last)), "[] 5")
	expect(t, show(impl.NormalizeLam(last, 1)), "[] 0 false 5")
}

// Runs with the greatest budget do not take long, also with long terms that have free variables below abstractions.
func TestPromise13LongRuns(t *testing.T) {
	t.Parallel()
	rest := longLam(2, 127)
	turning := below(1, appliedTo(below(1, lamOf(t, "(1 1)")), rest))
	both := appliedTo(turning, turning)
	next, code := expectBeta(t, both)
	expect(t, show(len(both), len(next), code), "267 396 0")
	again, code := expectBeta(t, next)
	expect(t, show(again, code), show(both, impl.OK))
	expect(t, show(impl.NormalizeLam(both, impl.MaxBudget)), show(both, impl.MaxBudget, false, impl.OK))
	deep := append(slices.Repeat([]impl.Lam{lamApp, lamVar(1)}, 190), lamOf(t, "(^(0 0) ^(0 0))")...)
	expect(t, show(impl.NormalizeLam(deep, impl.MaxBudget)), show(deep, impl.MaxBudget, false, impl.OK))
}

func TestPromise13NormalizationErrors(t *testing.T) {
	for i, x := range badLams() {
		expect(t, show(i, show(impl.BetaStep(x)), impl.IsNormalLam(x)), show(i, "[] 1", false))
		for _, budget := range append([]int64{1, impl.MaxBudget}, badBudgets...) {
			expect(t, show(i, show(impl.NormalizeLam(x, budget))), show(i, "[] 0 false 1"))
		}
	}
	for _, x := range append(smallLams(3, 1), longLam(0, 400), lamOf(t, "(^((0 0) 0) ^((0 0) 0))"), appliedTo(lamOf(t, "^(0 0)"), longLam(0, 200))) {
		for _, budget := range badBudgets {
			expect(t, show(budget, show(impl.NormalizeLam(x, budget))), show(budget, "[] 0 false 2"))
		}
	}
}

func TestPromise13Applications(t *testing.T) {
	t.Parallel()
	one, two := lamOf(t, "^(0 1)"), lamOf(t, "(^0 3)")
	expect(t, show(impl.ApplyLam(one, nil)), show(one, impl.OK))
	expect(t, show(impl.ApplyLam(one, [][]impl.Lam{})), show(one, impl.OK))
	for _, c := range []struct {
		args []string
		want string
	}{
		{[]string{"0"}, "(^(0 1) 0)"}, {[]string{"0", "1"}, "((^(0 1) 0) 1)"}, {[]string{"0", "1", "^0", "(2 3)"}, "((((^(0 1) 0) 1) ^0) (2 3))"}, {[]string{"^(0 1)", "^(0 1)"}, "((^(0 1) ^(0 1)) ^(0 1))"},
	} {
		var args [][]impl.Lam
		for _, s := range c.args {
			args = append(args, lamOf(t, s))
		}
		expect(t, show(c.args, show(impl.ApplyLam(one, args))), show(c.args, show(lamOf(t, c.want), impl.OK)))
	}
	forSomeLams(261, 1500, 150, func(random *rand.Rand, x []impl.Lam) {
		var args [][]impl.Lam
		for range random.Intn(6) {
			args = append(args, someLam(random, 1+random.Intn(100), 0))
		}
		expect(t, show(x, args, show(impl.ApplyLam(x, args))), show(x, args, lamResult(appliedTo(x, args...))))
	})
	for elements := 1; elements <= mostElements; elements++ {
		x := longLam(0, elements)
		for _, others := range []int{mostElements - 1 - elements, mostElements - elements} {
			if others > 0 {
				y := longLam(1, others)
				expect(t, show(impl.ApplyLam(x, [][]impl.Lam{y})), lamResult(appliedTo(x, y)))
			}
		}
		args := slices.Repeat([][]impl.Lam{two[2:3]}, elements)
		expect(t, show(impl.ApplyLam(two, args)), lamResult(appliedTo(two, args...)))
	}
	expect(t, show(impl.ApplyLam(longLam(0, 400), nil)), show(longLam(0, 400), impl.OK))
	expect(t, show(impl.ApplyLam(longLam(0, 400), [][]impl.Lam{two})), "[] 5")
	expect(t, show(impl.ApplyLam(two, slices.Repeat([][]impl.Lam{longLam(0, 400)}, 1000))), "[] 5")
}

func TestPromise13ApplicationErrors(t *testing.T) {
	zero := []impl.Lam{lamVar(0)}
	for i, bad := range badLams() {
		for _, args := range [][][]impl.Lam{nil, {zero}, {bad}, {longLam(0, 400), zero}} {
			expect(t, show(i, show(impl.ApplyLam(bad, args))), show(i, "[] 1"))
		}
		// An argument that is no term counts before those that are too long.
		for _, args := range [][][]impl.Lam{{bad}, {zero, bad}, {bad, zero}, {longLam(0, 400), bad}, append(slices.Repeat([][]impl.Lam{zero}, 500), bad)} {
			expect(t, show(i, show(impl.ApplyLam(zero, args))), show(i, "[] 1"))
			expect(t, show(i, show(impl.ApplyLam(longLam(0, 400), args))), show(i, "[] 1"))
		}
	}
}

// plainNumeral returns the text of a numeral.
func plainNumeral(n int) string {
	return "^^" + strings.Repeat("(1 ", n) + "0" + strings.Repeat(")", n)
}

func TestPromise13Numerals(t *testing.T) {
	for n := range impl.MaxNumeral + 1 {
		x, code := impl.NumeralLam(int64(n))
		expect(t, show(impl.LamText(x), code), show(plainNumeral(n), impl.OK))
		expect(t, show(n, show(impl.NumeralValue(x))), show(n, show(n, impl.OK)))
		expect(t, show(n, impl.IsClosedLam(x), impl.IsNormalLam(x)), show(n, true, true))
	}
	for _, n := range []int64{-1, impl.MaxNumeral + 1, impl.MaxNumeral + 2, 1 << 32, math.MinInt64, math.MaxInt64} {
		expect(t, show(n, show(impl.NumeralLam(n))), show(n, "[] 2"))
	}
	// Greater numbers have numerals that are no longer than a term may be, but no value.
	for _, n := range []int{151, 152, 197, 198} {
		x := lamOf(t, plainNumeral(n))
		expect(t, show(n, show(impl.NumeralValue(x))), show(n, "0 3"))
	}
	expect(t, show(impl.ReadLam(plainNumeral(199))), "[] false")
}

func TestPromise13NearlyNumerals(t *testing.T) {
	for _, s := range []string{
		"0", "1", "^0", "^1", "^^1", "^^2", "^^^0", "(1 0)", "^(1 0)", "^^(0 0)", "^^(0 1)", "^^(1 1)", "^^(2 0)", "^^(1 2)", "^^((1 1) 0)", "^^(1 (1 1))", "^^(1 (0 0))", "^^(1 (0 1))", "^^(0 (1 0))", "^^((1 0) 0)", "^^((1 0) 1)", "^(1 (1 0))", "^^^(1 (1 0))", "^^^(2 (2 1))", "(^^0 0)", "(^^(1 0) ^^0)", "^^(1 ^0)", "^^(1 ^1)", "^^(^0 0)", "^(^(1 0) 0)", "^(0 ^0)", "(^^0 ^^0)", "^^(^(2 0) 0)", "^0",
	} {
		expect(t, show(s, show(impl.NumeralValue(lamOf(t, s)))), show(s, "0 3"))
	}
	values := map[string]int64{}
	for n := range impl.MaxNumeral + 1 {
		values[plainNumeral(n)] = int64(n)
	}
	numerals := 0
	for _, x := range smallLams(9, 2) {
		n, has := values[plainLamText(x)]
		if has {
			numerals++
			expect(t, show(x, show(impl.NumeralValue(x))), show(x, show(n, impl.OK)))
		} else {
			expect(t, show(x, show(impl.NumeralValue(x))), show(x, "0 3"))
		}
	}
	expect(t, show(numerals), "4")
	// In all places of a long numeral, another variable makes it another term.
	for _, n := range []int64{1, 2, 75, 149, 150} {
		x, _ := impl.NumeralLam(n)
		for at, e := range x {
			if e.Kind == impl.LamVar {
				changed := slices.Clone(x)
				changed[at] = lamVar(1 - e.Index)
				expect(t, show(n, at, show(impl.NumeralValue(changed))), show(n, at, "0 3"))
				changed[at] = lamVar(2)
				expect(t, show(n, at, show(impl.NumeralValue(changed))), show(n, at, "0 3"))
			}
		}
	}
	for i, x := range badLams() {
		expect(t, show(i, show(impl.NumeralValue(x))), show(i, "0 1"))
	}
	x, _ := impl.NumeralLam(3)
	for at := range x {
		expect(t, show(at, show(impl.NumeralValue(x[:at]))), show(at, "0 1"))
	}
}

// numeralOfTerm returns the number of the normal term of an application to numerals, and the codes of what has been done.
func numeralOfTerm(t *testing.T, x []impl.Lam, numbers ...int64) string {
	t.Helper()
	var args [][]impl.Lam
	for _, n := range numbers {
		arg, _ := impl.NumeralLam(n)
		args = append(args, arg)
	}
	applied, code := impl.ApplyLam(x, args)
	last, _, normal, failed := impl.NormalizeLam(applied, impl.MaxBudget)
	n, found := impl.NumeralValue(last)
	return show(n, found, normal, code, failed)
}

// Numerals add and multiply.
func TestPromise13Arithmetic(t *testing.T) {
	next, add, multiply := lamOf(t, "^^^(1 ((2 1) 0))"), lamOf(t, "^^^^((3 1) ((2 1) 0))"), lamOf(t, "^^^(2 (1 0))")
	isNumeral := func(n int64) string { return show(n, impl.OK, true, impl.OK, impl.OK) }
	for a := range int64(13) {
		for b := range int64(13) {
			expect(t, numeralOfTerm(t, add, a, b), isNumeral(a+b))
			expect(t, numeralOfTerm(t, multiply, a, b), isNumeral(a*b))
		}
	}
	for n := range int64(impl.MaxNumeral) {
		expect(t, show(n, numeralOfTerm(t, next, n)), show(n, isNumeral(n+1)))
	}
	for _, c := range [][2]int64{{75, 75}, {149, 1}, {0, 150}, {150, 0}, {20, 130}, {130, 20}} {
		expect(t, show(c, numeralOfTerm(t, add, c[0], c[1])), show(c, isNumeral(c[0]+c[1])))
	}
	for _, c := range [][2]int64{{10, 15}, {15, 10}, {1, 150}, {0, 150}, {2, 75}} {
		expect(t, show(c, numeralOfTerm(t, multiply, c[0], c[1])), show(c, isNumeral(c[0]*c[1])))
	}
	// A number may be too great for a numeral, but its term not be too long.
	noNumeral := show(0, impl.ErrNotFound, true, impl.OK, impl.OK)
	expect(t, numeralOfTerm(t, next, 150), noNumeral)
	expect(t, numeralOfTerm(t, add, 75, 76), noNumeral)
	expect(t, numeralOfTerm(t, multiply, 8, 19), noNumeral)
	// On the way, a term may become too long.
	expect(t, numeralOfTerm(t, multiply, 75, 2), show(0, impl.ErrInvalid, false, impl.OK, impl.ErrFull))
	first, _ := impl.NumeralLam(75)
	second, _ := impl.NumeralLam(2)
	expect(t, show(expectNormalization(t, appliedTo(multiply, first, second), 10)), show(impl.ErrFull))
	power := lamOf(t, "^^(0 1)")
	expect(t, numeralOfTerm(t, power, 2, 7), isNumeral(128))
	expect(t, numeralOfTerm(t, power, 5, 3), isNumeral(125))
	expect(t, numeralOfTerm(t, power, 3, 0), show(0, impl.ErrNotFound, true, impl.OK, impl.OK))
}
