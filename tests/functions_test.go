package tests

import (
	"math"
	"math/rand"
	"slices"
	"strings"
	"testing"

	"loop.example/g01079/impl"
)

// expectBuilt compares what is built with some nodes, and with ErrFull if there are too many of them.
func expectBuilt(t *testing.T, f []impl.Func, code int64, want []impl.Func) {
	t.Helper()
	if len(want) > mostNodes {
		expect(t, show(f, code), show([]impl.Func{}, impl.ErrFull))
		return
	}
	expect(t, show(f, code, impl.ValidFunc(f)), show(want, impl.OK, true))
}

func TestPromise12BuiltTexts(t *testing.T) {
	pred, add := funcOf(t, "R(Z0;P2.0)"), funcOf(t, "R(P1.0;C(S;P3.1))")
	expectText := func(f []impl.Func, code int64, want string) {
		t.Helper()
		expect(t, show(impl.FuncText(f), code), show(want, impl.OK))
	}
	two, code := impl.ConstantFunc(2, 1)
	expectText(two, code, "C(S;C(S;Z1))")
	f, code := impl.ComposeFunc(pred, [][]impl.Func{two})
	expectText(f, code, "C(R(Z0;P2.0);C(S;C(S;Z1)))")
	f, code = impl.ComposeFunc(add, [][]impl.Func{pred, two})
	expectText(f, code, "C(R(P1.0;C(S;P3.1));R(Z0;P2.0),C(S;C(S;Z1)))")
	f, code = impl.ComposeFunc(add, [][]impl.Func{two, pred})
	expectText(f, code, "C(R(P1.0;C(S;P3.1));C(S;C(S;Z1)),R(Z0;P2.0))")
	f, code = impl.ComposeFunc(funcOf(t, "Z4"), slices.Repeat([][]impl.Func{funcOf(t, "Z0")}, 4))
	expectText(f, code, "C(Z4;Z0,Z0,Z0,Z0)")
	f, code = impl.RepeatFunc(funcOf(t, "Z0"), funcOf(t, "P2.0"))
	expectText(f, code, "R(Z0;P2.0)")
	f, code = impl.RepeatFunc(pred, funcOf(t, "C(R(P1.0;C(S;P3.1));P3.2,P3.1)"))
	expectText(f, code, "R(R(Z0;P2.0);C(R(P1.0;C(S;P3.1));P3.2,P3.1))")
	f, code = impl.LeastFunc(add)
	expectText(f, code, "M(R(P1.0;C(S;P3.1)))")
	f, code = impl.ReorderFunc(pred, []int64{1}, 2)
	expectText(f, code, "C(R(Z0;P2.0);P2.1)")
	f, code = impl.ReorderFunc(add, []int64{3, 0}, 4)
	expectText(f, code, "C(R(P1.0;C(S;P3.1));P4.3,P4.0)")
	f, code = impl.ReorderFunc(add, []int64{0, 0}, 1)
	expectText(f, code, "C(R(P1.0;C(S;P3.1));P1.0,P1.0)")
}

// composedNodes returns the nodes of a composition.
func composedNodes(outer []impl.Func, inner [][]impl.Func) []impl.Func {
	return slices.Concat([]impl.Func{node(3, inner[0][0].Arity, int64(len(inner)))}, outer, slices.Concat(inner...))
}

// Compositions with too few, too many and no inner functions, and with inner ones of different Arity.
func TestPromise12Composing(t *testing.T) {
	codes := map[int64]int{}
	random := rand.New(rand.NewSource(250))
	for range 4000 {
		outer := someFunc(random, random.Int63n(5), 30)
		arity := random.Int63n(5)
		var inner [][]impl.Func
		alike := true
		for range max(0, int(outer[0].Arity)-1+(1+random.Intn(6))/2) {
			own := arity
			if random.Intn(12) == 0 {
				own = random.Int63n(5)
			}
			inner = append(inner, someFunc(random, own, 20))
			alike = alike && own == inner[0][0].Arity
		}
		f, code := impl.ComposeFunc(outer, inner)
		codes[code]++
		if int64(len(inner)) != outer[0].Arity || len(inner) == 0 || !alike {
			expect(t, show(outer, inner, f, code), show(outer, inner, []impl.Func{}, impl.ErrOrder))
			continue
		}
		expectBuilt(t, f, code, composedNodes(outer, inner))
	}
	if codes[impl.OK] < 500 || codes[impl.ErrOrder] < 1000 {
		t.Errorf("compositions with the codes 0 and 7: %v", codes)
	}
}

func TestPromise12ComposingEnds(t *testing.T) {
	zero, next, pick := funcOf(t, "Z0"), funcOf(t, "S"), funcOf(t, "P2.1")
	for _, c := range []struct {
		outer []impl.Func
		inner [][]impl.Func
	}{
		{zero, nil}, {zero, [][]impl.Func{}}, {zero, [][]impl.Func{zero}}, {next, nil}, {next, [][]impl.Func{next, next}}, {pick, [][]impl.Func{next}}, {pick, [][]impl.Func{next, next, next}}, {pick, [][]impl.Func{next, zero}}, {pick, [][]impl.Func{zero, next}}, {pick, [][]impl.Func{pick, next}},
		{funcOf(t, "P4.0"), [][]impl.Func{next, next, next, zero}}, {funcOf(t, "P4.0"), slices.Repeat([][]impl.Func{next}, 5)}, {next, slices.Repeat([][]impl.Func{next}, 10000)}, {pick, nil},
		// What does not fit together counts before what is too long.
		{longFunc(1, 60), nil}, {longFunc(0, 60), nil}, {longFunc(1, 60), slices.Repeat([][]impl.Func{longFunc(1, 60)}, 2)}, {longFunc(2, 59), [][]impl.Func{longFunc(1, 59), longFunc(2, 59)}}, {longFunc(4, 60), slices.Repeat([][]impl.Func{longFunc(0, 60)}, 5)},
	} {
		f, code := impl.ComposeFunc(c.outer, c.inner)
		expect(t, show(c.outer, len(c.inner), f, code), show(c.outer, len(c.inner), []impl.Func{}, impl.ErrOrder))
	}
	// Results of exactly MaxFunc nodes and of one more.
	for _, a := range []int{1, 4, 29, 30, 50, 55, 58, 60} {
		for _, b := range []int{1, 4, 5, 8, 29, 30, 31, 55, 58, 60} {
			outer, inner := longFunc(1, a), [][]impl.Func{longFunc(4, b)}
			f, code := impl.ComposeFunc(outer, inner)
			expectBuilt(t, f, code, composedNodes(outer, inner))
			both := [][]impl.Func{longFunc(0, b), longFunc(0, 1)}
			f, code = impl.ComposeFunc(longFunc(2, a), both)
			expectBuilt(t, f, code, composedNodes(longFunc(2, a), both))
		}
	}
	inner := slices.Repeat([][]impl.Func{longFunc(3, 14)}, 4)
	f, code := impl.ComposeFunc(longFunc(4, 1), inner)
	expect(t, show(len(f), code), "58 0")
	f, code = impl.ComposeFunc(longFunc(4, 4), inner)
	expect(t, show(f, code), "[] 5")
}

func TestPromise12ComposingInvalid(t *testing.T) {
	next := funcOf(t, "S")
	for i, bad := range badFuncs() {
		for _, inner := range [][][]impl.Func{nil, {next}, {bad}, {next, next}, {next, bad}, {bad, next}} {
			f, code := impl.ComposeFunc(bad, inner)
			expect(t, show(i, f, code), show(i, []impl.Func{}, impl.ErrInvalid))
		}
		// One that is not valid counts before all others, also if there are too many.
		for _, outer := range [][]impl.Func{next, longFunc(0, 60), longFunc(2, 60), longFunc(4, 1)} {
			for _, inner := range [][][]impl.Func{{bad}, {next, bad}, {bad, next}, {longFunc(0, 60), longFunc(1, 60), bad}, append(slices.Repeat([][]impl.Func{next}, 70), bad)} {
				f, code := impl.ComposeFunc(outer, inner)
				expect(t, show(i, f, code), show(i, []impl.Func{}, impl.ErrInvalid))
			}
		}
		for _, both := range [][2][]impl.Func{{bad, bad}, {bad, next}, {next, bad}, {bad, longFunc(2, 60)}, {longFunc(4, 60), bad}} {
			f, code := impl.RepeatFunc(both[0], both[1])
			expect(t, show(i, f, code), show(i, []impl.Func{}, impl.ErrInvalid))
		}
		f, code := impl.LeastFunc(bad)
		expect(t, show(i, f, code), show(i, []impl.Func{}, impl.ErrInvalid))
		for _, order := range [][]int64{nil, {0}, {0, 1}, {-1}, {5}, repeat(0, 100)} {
			for _, arity := range []int64{1, 4, 0, 5, -1, math.MaxInt64} {
				f, code := impl.ReorderFunc(bad, order, arity)
				expect(t, show(i, f, code), show(i, []impl.Func{}, impl.ErrInvalid))
			}
		}
	}
}

func TestPromise12Repeating(t *testing.T) {
	random := rand.New(rand.NewSource(251))
	for base := range int64(5) {
		for step := range int64(5) {
			for range 40 {
				a, b := someFunc(random, base, 40), someFunc(random, step, 40)
				f, code := impl.RepeatFunc(a, b)
				if step != base+2 {
					expect(t, show(a, b, f, code), show(a, b, []impl.Func{}, impl.ErrOrder))
					continue
				}
				expectBuilt(t, f, code, slices.Concat([]impl.Func{node(4, base+1, 0)}, a, b))
			}
			for _, a := range []int{1, 4, 29, 30, 55, 58, 60} {
				for _, b := range []int{1, 4, 5, 29, 30, 31, 55, 58, 60} {
					f, code := impl.RepeatFunc(longFunc(base, a), longFunc(step, b))
					if step != base+2 {
						expect(t, show(a, b, f, code), show(a, b, []impl.Func{}, impl.ErrOrder))
						continue
					}
					expectBuilt(t, f, code, slices.Concat([]impl.Func{node(4, base+1, 0)}, longFunc(base, a), longFunc(step, b)))
				}
			}
		}
	}
}

func TestPromise12Searching(t *testing.T) {
	check := func(g []impl.Func) {
		t.Helper()
		f, code := impl.LeastFunc(g)
		if g[0].Arity == 0 {
			expect(t, show(g, f, code), show(g, []impl.Func{}, impl.ErrOrder))
			return
		}
		expectBuilt(t, f, code, append([]impl.Func{node(5, g[0].Arity-1, 0)}, g...))
	}
	forSomeFuncs(252, 300, func(_ *rand.Rand, f []impl.Func) { check(f) })
	for _, f := range allSmallFuncs(4) {
		check(f)
	}
	for arity := range int64(5) {
		for _, nodes := range []int{1, 4, 57, 58, 59, 60} {
			check(longFunc(arity, nodes))
		}
	}
}

func TestPromise12Constant(t *testing.T) {
	for arity := range int64(5) {
		for value := range int64(40) {
			want := longFunc(arity, int(2*value+1))
			f, code := impl.ConstantFunc(value, arity)
			expectBuilt(t, f, code, want)
			if code == impl.OK {
				expect(t, show(impl.EvalFunc(f, repeat(7, int(arity)), impl.MaxBudget)), show(value, 2*value+1, impl.OK))
			}
		}
		for _, value := range []int64{30, 31, 60, 61, 1 << 32, impl.MaxValue, math.MaxInt64/2 + 1, math.MaxInt64 - 1, math.MaxInt64} {
			f, code := impl.ConstantFunc(value, arity)
			expect(t, show(value, f, code), show(value, []impl.Func{}, impl.ErrFull))
		}
		for _, value := range []int64{-1, -2, math.MinInt64} {
			f, code := impl.ConstantFunc(value, arity)
			expect(t, show(value, f, code), show(value, []impl.Func{}, impl.ErrRange))
		}
	}
	// An arity outside of its range counts before a value that is too great.
	for _, arity := range []int64{-1, 5, 6, 1 << 32, math.MinInt64, math.MaxInt64} {
		for _, value := range []int64{0, 1, 29, 30, -1, math.MinInt64, math.MaxInt64} {
			f, code := impl.ConstantFunc(value, arity)
			expect(t, show(arity, value, f, code), show(arity, value, []impl.Func{}, impl.ErrRange))
		}
	}
	zero, code := impl.ConstantFunc(0, 0)
	expect(t, show(zero, code), show([]impl.Func{{}}, impl.OK))
}

// A function with other arguments has the value for these, and takes a step for each of them and one more. The order may
// name an argument twice or not at all.
func TestPromise12Reordering(t *testing.T) {
	codes := map[int64]int{}
	random := rand.New(rand.NewSource(253))
	for range 3000 {
		g := someFunc(random, random.Int63n(5), 57)
		arity := 1 + random.Int63n(mostArguments)
		var order []int64
		for range g[0].Arity {
			order = append(order, random.Int63n(arity))
		}
		f, code := impl.ReorderFunc(g, order, arity)
		codes[code]++
		if len(order) == 0 {
			expect(t, show(g, order, f, code), show(g, order, []impl.Func{}, impl.ErrOrder))
			continue
		}
		want := append([]impl.Func{node(3, arity, int64(len(order)))}, g...)
		for _, index := range order {
			want = append(want, node(2, arity, index))
		}
		expectBuilt(t, f, code, want)
		if code != impl.OK {
			continue
		}
		args := someArguments(random, f)
		var others []int64
		for _, index := range order {
			others = append(others, args[index])
		}
		value, steps, code := impl.EvalFunc(g, others, 1000)
		if code == impl.OK {
			steps += 1 + int64(len(order))
		}
		expect(t, show(g, order, args, show(impl.EvalFunc(f, args, 1000+1+int64(len(order))))), show(g, order, args, show(value, steps, code)))
	}
	if codes[impl.OK] < 1000 || codes[impl.ErrOrder] < 300 {
		t.Errorf("orders with the codes 0 and 7: %v", codes)
	}
}

func TestPromise12ReorderingEnds(t *testing.T) {
	minus := funcOf(t, "C(R(P1.0;C(R(Z0;P2.0);P3.1));P2.1,P2.0)")
	for _, c := range []struct {
		order []int64
		args  []int64
		want  int64
	}{
		{[]int64{0, 1}, []int64{9, 4}, 5}, {[]int64{1, 0}, []int64{9, 4}, 0}, {[]int64{1, 0}, []int64{4, 9}, 5}, {[]int64{0, 0}, []int64{9, 4}, 0}, {[]int64{3, 1}, []int64{9, 4, 9, 6}, 2}, {[]int64{2, 2}, []int64{1, 2, 3}, 0}, {[]int64{0, 0}, []int64{9}, 0},
	} {
		f, code := impl.ReorderFunc(minus, c.order, int64(len(c.args)))
		value, _, failed := impl.EvalFunc(f, c.args, 500)
		expect(t, show(c.order, c.args, code, value, failed), show(c.order, c.args, impl.OK, c.want, impl.OK))
	}
	errorsOf := func(f []impl.Func, order []int64, arity, want int64) {
		t.Helper()
		g, code := impl.ReorderFunc(f, order, arity)
		expect(t, show(f, len(order), arity, g, code), show(f, len(order), arity, []impl.Func{}, want))
	}
	for _, f := range [][]impl.Func{funcOf(t, "Z0"), funcOf(t, "S"), minus, longFunc(0, 60), longFunc(2, 60), longFunc(4, 59)} {
		have := f[0].Arity
		right := repeat(0, int(have))
		// A wrong arity or element counts before a wrong number of elements, and that before too many nodes.
		for _, arity := range []int64{0, -1, 5, 6, 1 << 32, math.MinInt64, math.MaxInt64} {
			for _, order := range [][]int64{nil, right, {0}, {-1}, {4}, repeat(0, 70)} {
				errorsOf(f, order, arity, impl.ErrRange)
			}
		}
		for arity := int64(1); arity <= 4; arity++ {
			for _, bad := range []int64{-1, arity, arity + 1, 1 << 32, math.MinInt64, math.MaxInt64} {
				for _, order := range [][]int64{{bad}, {0, bad}, {bad, 0}, append(slices.Clone(right), bad), append(repeat(0, 70), bad)} {
					errorsOf(f, order, arity, impl.ErrRange)
				}
			}
			for length := range 8 {
				if int64(length) != have {
					errorsOf(f, repeat(arity-1, length), arity, impl.ErrOrder)
				}
			}
			errorsOf(f, repeat(0, 100000), arity, impl.ErrOrder)
		}
	}
	errorsOf(funcOf(t, "Z0"), nil, 1, impl.ErrOrder)
	for have := int64(1); have <= 4; have++ {
		for nodes := 53; nodes <= 60; nodes++ {
			f, code := impl.ReorderFunc(longFunc(have, nodes), repeat(0, int(have)), 1)
			want := slices.Concat([]impl.Func{node(3, 1, have)}, longFunc(have, nodes), slices.Repeat([]impl.Func{node(2, 1, 0)}, int(have)))
			expectBuilt(t, f, code, want)
		}
	}
}

// Each row of the table of names, in which the texts of other rows have been put in place of their names.
var standardTexts = map[string]string{
	"pred":     "R(Z0;P2.0)",
	"add":      "R(P1.0;C(S;P3.1))",
	"multiply": "R(Z1;C(R(P1.0;C(S;P3.1));P3.2,P3.1))",
	"minus":    "C(R(P1.0;C(R(Z0;P2.0);P3.1));P2.1,P2.0)",
	"sign":     "R(Z0;C(S;Z2))",
	"not":      "R(C(S;Z0);Z2)",
	"differ":   "C(R(P1.0;C(S;P3.1));C(R(P1.0;C(R(Z0;P2.0);P3.1));P2.1,P2.0),C(C(R(P1.0;C(R(Z0;P2.0);P3.1));P2.1,P2.0);P2.1,P2.0))",
	"halve":    "M(C(C(R(P1.0;C(R(Z0;P2.0);P3.1));P2.1,P2.0);P2.1,C(R(P1.0;C(S;P3.1));P2.0,P2.0)))",
}

func TestPromise12StandardFuncs(t *testing.T) {
	for name, text := range standardTexts {
		f, code := impl.StandardFunc(name)
		expect(t, show(name, impl.FuncText(f), code), show(name, text, impl.OK))
		expect(t, show(f), show(funcOf(t, text)))
		expect(t, show(name, impl.IsPrimitive(f)), show(name, name != "halve"))
	}
	for _, name := range []string{
		"", "-", " ", "pre", "predd", "Pred", "PRED", "pred ", " pred", "pred\n", "pred\x00", "addition", "ad", "power", "mult", "multiplyy", "sub", "subtract", "div", "half", "halves", "nott", "no", "differs", "signs", "zero", "next", "S", "Z0", "R(Z0;P2.0)", "C(add;minus)", "\xff", "p\u0072ed\u0301", strings.Repeat("add", 100000),
	} {
		f, code := impl.StandardFunc(name)
		expect(t, show(len(name), f, code), show(len(name), []impl.Func{}, impl.ErrNotFound))
	}
	var again [][]impl.Func
	for range 50 {
		f, _ := impl.StandardFunc("differ")
		again = append(again, f)
	}
	expect(t, show(again), show(slices.Repeat(again[:1], 50)))
}

func TestPromise12StandardValues(t *testing.T) {
	truth := func(is bool) int64 {
		if is {
			return 1
		}
		return 0
	}
	one := map[string]func(int64) int64{
		"pred": func(n int64) int64 { return max(n-1, 0) }, "sign": func(n int64) int64 { return truth(n > 0) }, "not": func(n int64) int64 { return truth(n == 0) },
		"halve": func(n int64) int64 { return (n + 1) / 2 },
	}
	two := map[string]func(a, b int64) int64{
		"add": func(a, b int64) int64 { return a + b }, "multiply": func(a, b int64) int64 { return a * b }, "minus": func(a, b int64) int64 { return max(a-b, 0) },
		"differ": func(a, b int64) int64 { return max(a-b, b-a) },
	}
	for a := range int64(13) {
		for name, want := range one {
			f, _ := impl.StandardFunc(name)
			value, _, code := impl.EvalFunc(f, []int64{a}, impl.MaxBudget)
			expect(t, show(name, a, value, code), show(name, a, want(a), impl.OK))
		}
		for b := range int64(13) {
			for name, want := range two {
				f, _ := impl.StandardFunc(name)
				value, _, code := impl.EvalFunc(f, []int64{a, b}, impl.MaxBudget)
				expect(t, show(name, a, b, value, code), show(name, a, b, want(a, b), impl.OK))
			}
		}
	}
	minus, _ := impl.StandardFunc("minus")
	value, _, code := impl.EvalFunc(minus, []int64{mostCount, 3}, impl.MaxBudget)
	expect(t, show(value, code), "0 5")
	pred, _ := impl.StandardFunc("pred")
	table, code := impl.TableOf(pred, 5, 7)
	expect(t, show(table, code), "[0 0 1 2 3] 0")
}

// Exactly as many steps as the table of names says: repetitions have one step more than their base and their steps.
func TestPromise12StandardSteps(t *testing.T) {
	for a := range int64(9) {
		for b := range int64(9) {
			for _, c := range []struct {
				name  string
				args  []int64
				steps int64
			}{
				{"pred", []int64{a}, 2 + a}, {"sign", []int64{a}, 2 + 3*a}, {"not", []int64{a}, 4 + a}, {"add", []int64{a, b}, 2 + 3*a}, {"multiply", []int64{a, b}, 2 + a*(1+2+2+3*b)},
			} {
				f, _ := impl.StandardFunc(c.name)
				_, steps, code := impl.EvalFunc(f, c.args, c.steps)
				expect(t, show(c.name, c.args, steps, code), show(c.name, c.args, c.steps, impl.OK))
				expect(t, show(c.name, c.args, show(impl.EvalFunc(f, c.args, c.steps-1))), show(c.name, c.args, noValue+"5"))
			}
			for _, name := range []string{"minus", "differ"} {
				f, _ := impl.StandardFunc(name)
				expectValue(t, f, []int64{a, b}, impl.MaxBudget)
			}
		}
		halve, _ := impl.StandardFunc("halve")
		expectValue(t, halve, []int64{a}, impl.MaxBudget)
	}
}
