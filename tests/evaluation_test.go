package tests

import (
	"math"
	"math/rand"
	"slices"
	"testing"

	"loop.example/g01079/impl"
)

// mostCount is the greatest value of a function.
const mostCount = 1000000

// noValue is what a value and the number of steps look like beside an error.
const noValue = "0 0 "

// funcModel evaluates a function in the plainest way. As soon as it has a code, no further steps are made.
type funcModel struct {
	f             []impl.Func
	budget, steps int64
	code          int64
}

// value returns the value of the function at a node.
func (m *funcModel) value(at int, args []int64) int64 {
	if m.code == impl.OK && m.steps == m.budget {
		m.code = impl.ErrFull
	}
	if m.code != impl.OK {
		return 0
	}
	m.steps++
	n, parts := m.f[at], plainParts(m.f, at)
	switch n.Kind {
	case 1:
		if args[0] == mostCount {
			m.code = impl.ErrState
			return 0
		}
		return args[0] + 1
	case 2:
		return args[n.Index]
	case 3:
		var values []int64
		for _, inner := range parts[1 : len(parts)-1] {
			values = append(values, m.value(inner, args))
		}
		return m.value(parts[0], values)
	case 4:
		value := m.value(parts[0], args[1:])
		for i := int64(0); i < args[0] && m.code == impl.OK; i++ {
			value = m.value(parts[1], slices.Concat([]int64{i, value}, args[1:]))
		}
		return value
	case 5:
		y := int64(0)
		for m.value(parts[0], slices.Concat([]int64{y}, args)) != 0 {
			y++
		}
		return y
	default:
		return 0
	}
}

// plainValue writes the results of an evaluation by the model.
func plainValue(f []impl.Func, args []int64, budget int64) string {
	m := funcModel{f: f, budget: budget}
	value := m.value(0, args)
	if m.code != impl.OK {
		return noValue + show(m.code)
	}
	return show(value, m.steps, impl.OK)
}

// expectValue compares an evaluation with that of the model, and returns its code.
func expectValue(t *testing.T, f []impl.Func, args []int64, budget int64) int64 {
	t.Helper()
	what := show(impl.FuncText(f), args, budget) + " "
	value, steps, code := impl.EvalFunc(f, args, budget)
	expect(t, what+show(value, steps, code), what+plainValue(f, args, budget))
	return code
}

// someArguments returns arguments for a function, which are small or close to the greatest ones.
func someArguments(random *rand.Rand, f []impl.Func) []int64 {
	var args []int64
	for range f[0].Arity {
		n := random.Int63n(6)
		if random.Intn(3) == 0 {
			n = mostCount - random.Int63n(2)
		}
		args = append(args, n)
	}
	return args
}

// Each row of the table of kinds, with exactly as many steps as the budget and with one more.
func TestPromise12Rows(t *testing.T) {
	for _, c := range []struct {
		text         string
		args         []int64
		value, steps int64
	}{
		{"Z0", nil, 0, 1}, {"Z1", []int64{7}, 0, 1}, {"Z4", []int64{1, 2, 3, 4}, 0, 1}, {"S", []int64{0}, 1, 1}, {"S", []int64{41}, 42, 1},
		{"P1.0", []int64{5}, 5, 1}, {"P4.0", []int64{5, 6, 7, 8}, 5, 1}, {"P4.1", []int64{5, 6, 7, 8}, 6, 1}, {"P4.2", []int64{5, 6, 7, 8}, 7, 1}, {"P4.3", []int64{5, 6, 7, 8}, 8, 1}, {"P2.1", []int64{5, mostCount}, mostCount, 1},
		// A composition has one step of its own.
		{"C(S;Z0)", nil, 1, 3}, {"C(S;S)", []int64{4}, 6, 3}, {"C(S;C(S;S))", []int64{4}, 7, 5}, {"C(C(S;S);S)", []int64{4}, 7, 5}, {"C(P2.0;S,Z1)", []int64{4}, 5, 4}, {"C(P2.1;S,Z1)", []int64{4}, 0, 4}, {"C(P4.2;Z3,P3.2,P3.0,P3.1)", []int64{5, 6, 7}, 5, 6}, {"C(Z4;S,S,S,S)", []int64{9}, 0, 6}, {"C(P2.0;P3.2,P3.1)", []int64{5, 6, 7}, 7, 4}, {"C(P1.0;P4.3)", []int64{5, 6, 7, 8}, 8, 3},
		// A repetition for 0 evaluates the base alone.
		{"R(Z0;P2.0)", []int64{0}, 0, 2}, {"R(Z0;P2.0)", []int64{1}, 0, 3}, {"R(Z0;P2.0)", []int64{2}, 1, 4}, {"R(Z0;P2.0)", []int64{9}, 8, 11}, {"R(Z0;P2.1)", []int64{9}, 0, 11}, {"R(Z0;Z2)", []int64{3}, 0, 5}, {"R(C(S;Z0);Z2)", []int64{0}, 1, 4}, {"R(C(S;Z0);Z2)", []int64{1}, 0, 5},
		{"R(S;P3.1)", []int64{0, 7}, 8, 2}, {"R(S;P3.1)", []int64{3, 7}, 8, 5}, {"R(S;P3.2)", []int64{3, 7}, 7, 5}, {"R(S;P3.0)", []int64{3, 7}, 2, 5}, {"R(P1.0;C(S;P3.1))", []int64{0, 4}, 4, 2}, {"R(P1.0;C(S;P3.1))", []int64{1, 4}, 5, 5}, {"R(P1.0;C(S;P3.1))", []int64{3, 4}, 7, 11},
		{"R(P2.0;P4.1)", []int64{2, 5, 6}, 5, 4}, {"R(P2.1;P4.1)", []int64{2, 5, 6}, 6, 4}, {"R(Z2;P4.0)", []int64{4, 5, 6}, 3, 6}, {"R(Z2;P4.2)", []int64{4, 5, 6}, 5, 6}, {"R(Z2;P4.3)", []int64{4, 5, 6}, 6, 6}, {"R(Z2;P4.3)", []int64{0, 5, 6}, 0, 2}, {"R(R(Z0;P2.0);P3.1)", []int64{2, 3}, 2, 8}, {"R(P1.0;R(P2.0;P4.1))", []int64{3, 7}, 7, 11},
		// A search that ends at 0, and such that go on.
		{"M(Z1)", nil, 0, 2}, {"M(P1.0)", nil, 0, 2}, {"M(Z4)", []int64{1, 2, 3}, 0, 2}, {"M(P2.0)", []int64{7}, 0, 2}, {"M(P2.1)", []int64{0}, 0, 2}, {"M(P4.3)", []int64{1, 2, 0}, 0, 2}, {"M(P4.0)", []int64{1, 2, 3}, 0, 2}, {"M(R(Z0;P2.0))", nil, 0, 3}, {"M(R(C(S;Z0);Z2))", nil, 1, 10}, {"M(C(R(Z0;P2.0);Z1))", nil, 0, 5},
		{"M(R(P1.0;Z3))", []int64{5}, 1, 6}, {"M(R(P1.0;Z3))", []int64{0}, 0, 3}, {"C(S;M(P1.0))", nil, 1, 4}, {"M(C(R(C(S;Z0);C(R(C(S;Z0);Z2);P2.0));P1.0))", nil, 2, 38},
		{"M(M(P2.0))", nil, 0, 3}, {"M(M(P3.1))", []int64{4}, 0, 3}, {"M(M(P3.2))", []int64{0}, 0, 3}, {"C(M(M(P3.0));M(M(P2.0)))", nil, 0, 7}, {"M(C(R(C(S;Z0);Z2);M(R(P1.0;Z3))))", nil, 1, 21},
	} {
		f := funcOf(t, c.text)
		for _, budget := range []int64{c.steps, c.steps + 1, 500, impl.MaxBudget} {
			expect(t, show(c.text, c.args, show(impl.EvalFunc(f, c.args, budget))), show(c.text, c.args, show(c.value, c.steps, impl.OK)))
		}
		for budget := int64(1); budget < c.steps; budget++ {
			expect(t, show(c.text, c.args, budget, show(impl.EvalFunc(f, c.args, budget))), show(c.text, c.args, budget, noValue+"5"))
		}
	}
}

func TestPromise12EvaluationsAsByModel(t *testing.T) {
	codes := map[int64]int{}
	nested := 0
	forSomeFuncs(240, 8000, func(random *rand.Rand, f []impl.Func) {
		args := someArguments(random, f)
		code := expectValue(t, f, args, 1+random.Int63n(200))
		codes[code]++
		if deep, _ := impl.SearchesOf(f); deep > 1 && code == impl.OK {
			nested++
		}
	})
	if codes[impl.OK] < 1000 || codes[impl.ErrFull] < 500 || codes[impl.ErrState] < 100 || nested < 100 {
		t.Errorf("evaluations with the codes 0, 5 and 6: %v; with searches within searches: %d", codes, nested)
	}
}

// Each budget up to that with which there is a value, or with which one is too great: all lesser ones are used up.
func TestPromise12EveryBudget(t *testing.T) {
	codes := map[int64]int{}
	forSomeFuncs(241, 2000, func(random *rand.Rand, f []impl.Func) {
		args := someArguments(random, f)
		enough := int64(1)
		for enough < 80 && expectValue(t, f, args, enough) == impl.ErrFull {
			enough++
		}
		value, steps, code := impl.EvalFunc(f, args, enough)
		codes[code]++
		switch code {
		case impl.ErrFull:
			return
		case impl.OK:
			expect(t, show(steps), show(enough))
		}
		for _, budget := range []int64{enough + 1, enough + 7, impl.MaxBudget} {
			expect(t, show(f, args, show(impl.EvalFunc(f, args, budget))), show(f, args, show(value, steps, code)))
		}
	})
	if codes[impl.OK] < 1000 || codes[impl.ErrState] < 50 {
		t.Errorf("evaluations with the codes 0, 5 and 6: %v", codes)
	}
}

func TestPromise12SmallFuncs(t *testing.T) {
	for _, f := range allSmallFuncs(4) {
		for _, args := range [][]int64{{0, 0, 0, 0}, {1, 2, 3, 4}, {2, 0, 1, 3}, {3, mostCount, 0, mostCount - 1}, {mostCount, 1, 0, 2}} {
			expectValue(t, f, args[:f[0].Arity], 30)
		}
	}
}

// A value may become MaxCount, but no greater; and the error counts that comes first.
func TestPromise12GreatValues(t *testing.T) {
	for _, c := range []struct {
		text   string
		args   []int64
		budget int64
		want   string
	}{
		{"S", []int64{mostCount - 1}, 1, "1000000 1 0"}, {"S", []int64{mostCount}, 1, "0 0 6"}, {"S", []int64{mostCount}, 2, "0 0 6"}, {"S", []int64{mostCount}, impl.MaxBudget, "0 0 6"}, {"P1.0", []int64{mostCount}, 1, "1000000 1 0"}, {"Z1", []int64{mostCount}, 1, "0 1 0"},
		{"C(S;S)", []int64{mostCount - 2}, 3, "1000000 3 0"}, {"C(S;S)", []int64{mostCount - 1}, 3, "0 0 6"}, {"C(S;S)", []int64{mostCount - 1}, 2, "0 0 5"}, {"C(S;S)", []int64{mostCount - 1}, 1, "0 0 5"}, {"C(S;S)", []int64{mostCount}, 2, "0 0 6"}, {"C(S;S)", []int64{mostCount}, 1, "0 0 5"},
		// Also a value that has no effect on the result is too great.
		{"C(Z1;S)", []int64{mostCount}, 9, "0 0 6"}, {"C(Z1;S)", []int64{mostCount - 1}, 9, "0 3 0"}, {"R(S;P3.2)", []int64{1, mostCount}, 9, "0 0 6"}, {"R(P1.0;C(S;P3.1))", []int64{3, mostCount - 3}, 11, "1000000 11 0"}, {"R(P1.0;C(S;P3.1))", []int64{3, mostCount - 2}, 11, "0 0 6"}, {"R(P1.0;C(S;P3.1))", []int64{3, mostCount - 2}, 10, "0 0 5"},
		{"R(P1.0;C(S;P3.1))", []int64{1, mostCount}, 5, "0 0 6"}, {"R(P1.0;C(S;P3.1))", []int64{1, mostCount}, 4, "0 0 5"}, {"R(P1.0;C(S;P3.1))", []int64{0, mostCount}, 2, "1000000 2 0"}, {"R(P1.0;C(S;P3.1))", []int64{mostCount, mostCount}, 20000, "0 0 6"}, {"R(P1.0;C(S;P3.1))", []int64{mostCount, 0}, 20000, "0 0 5"}, {"R(S;P3.0)", []int64{mostCount, 0}, 20000, "0 0 5"},
		// The inner functions are evaluated in order, and the outer one behind them.
		{"C(P2.0;S,M(C(S;P2.0)))", []int64{mostCount}, 500, "0 0 6"}, {"C(P2.0;S,M(C(S;P2.0)))", []int64{mostCount}, 2, "0 0 6"}, {"C(P2.0;S,M(C(S;P2.0)))", []int64{mostCount}, 1, "0 0 5"}, {"C(P2.0;M(C(S;P2.0)),S)", []int64{mostCount}, 500, "0 0 5"}, {"C(P2.0;S,M(C(S;P2.0)))", []int64{mostCount - 1}, 500, "0 0 5"}, {"C(M(C(S;P2.0));S)", []int64{mostCount}, 500, "0 0 6"}, {"C(M(C(S;P2.0));S)", []int64{mostCount - 1}, 500, "0 0 5"},
		{"C(C(S;P2.0);P1.0,M(C(S;P2.0)))", []int64{mostCount}, 500, "0 0 5"}, {"C(C(S;P2.0);M(C(S;P2.1)),S)", []int64{mostCount}, 500, "0 0 6"}, {"C(Z3;P1.0,S,M(C(S;P2.0)))", []int64{mostCount}, 3, "0 0 6"}, {"C(Z3;P1.0,S,M(C(S;P2.0)))", []int64{mostCount}, 2, "0 0 5"}, {"C(Z3;P1.0,M(C(S;P2.0)),S)", []int64{mostCount}, 500, "0 0 5"},
		// The base comes before the step, and the step for 0 before that for 1.
		{"R(S;C(M(C(S;P2.0));P3.0))", []int64{1, mostCount}, 500, "0 0 6"}, {"R(S;C(M(C(S;P2.0));P3.0))", []int64{1, mostCount - 1}, 500, "0 0 5"}, {"R(M(C(S;P2.0));C(S;P3.2))", []int64{1, mostCount}, 500, "0 0 5"}, {"R(Z1;C(S;P3.2))", []int64{1, mostCount}, 5, "0 0 6"}, {"R(Z1;C(S;P3.2))", []int64{0, mostCount}, 5, "0 2 0"}, {"R(Z1;C(M(C(R(P1.0;Z3);P2.1,C(S;P2.1)));P3.0))", []int64{5, 9}, 500, "0 0 5"},
		// A search without an end, and one that finds no value for its function.
		{"M(S)", nil, 1, "0 0 5"}, {"M(S)", nil, impl.MaxBudget, "0 0 5"}, {"M(P2.1)", []int64{1}, impl.MaxBudget, "0 0 5"}, {"M(C(S;P2.1))", []int64{mostCount}, 4, "0 0 6"}, {"M(C(S;P2.1))", []int64{mostCount}, 3, "0 0 5"}, {"M(C(S;P2.1))", []int64{mostCount - 1}, impl.MaxBudget, "0 0 5"},
		// Searches within searches: that within has no end for 1.
		{"M(C(R(C(S;Z0);Z2);M(P2.1)))", nil, impl.MaxBudget, "0 0 5"}, {"M(M(P2.1))", nil, 9, "0 3 0"}, {"M(C(S;M(P2.1)))", nil, 500, "0 0 5"},
	} {
		f := funcOf(t, c.text)
		expect(t, show(c.text, c.args, c.budget, show(impl.EvalFunc(f, c.args, c.budget))), show(c.text, c.args, c.budget, c.want))
		expect(t, show(c.text, plainValue(f, c.args, c.budget)), show(c.text, c.want))
	}
}

func TestPromise12GreatestBudget(t *testing.T) {
	pred, add, identity := funcOf(t, "R(Z0;P2.0)"), funcOf(t, "R(P1.0;C(S;P3.1))"), funcOf(t, "M(C(R(P1.0;C(R(Z0;P2.0);P3.1));P2.0,P2.1))")
	expect(t, show(impl.EvalFunc(pred, []int64{19998}, 20000)), "19997 20000 0")
	expect(t, show(impl.EvalFunc(pred, []int64{19998}, 19999)), "0 0 5")
	expect(t, show(impl.EvalFunc(pred, []int64{19999}, 20000)), "0 0 5")
	expect(t, show(impl.EvalFunc(pred, []int64{mostCount}, 20000)), "0 0 5")
	expect(t, show(impl.EvalFunc(add, []int64{6666, mostCount - 6666}, 20000)), "1000000 20000 0")
	expect(t, show(impl.EvalFunc(add, []int64{6666, mostCount - 6665}, 20000)), "0 0 6")
	expect(t, show(impl.EvalFunc(add, []int64{6667, 0}, 20000)), "0 0 5")
	expect(t, show(impl.EvalFunc(add, []int64{6667, 0}, 20001)), "0 0 2")
	for n := int64(0); n < 12; n++ {
		expectValue(t, identity, []int64{n}, impl.MaxBudget)
		value, _, code := impl.EvalFunc(identity, []int64{n}, impl.MaxBudget)
		expect(t, show(value, code), show(n, impl.OK))
	}
	long := longFunc(0, 59)
	expect(t, show(impl.EvalFunc(long, nil, 59)), "29 59 0")
	expect(t, show(impl.EvalFunc(long, nil, 58)), "0 0 5")
	expect(t, show(impl.EvalFunc(longFunc(4, 60), []int64{1, 2, 3, 4}, 60)), "28 60 0")
}

// The value and the steps of a composition are those of its parts.
func TestPromise12Compositions(t *testing.T) {
	t.Parallel()
	random := rand.New(rand.NewSource(242))
	ended := 0
	for range 3000 {
		arity := random.Int63n(mostArguments + 1)
		many := 1 + random.Int63n(mostArguments)
		outer := someFunc(random, many, 10)
		var inner [][]impl.Func
		for range many {
			inner = append(inner, someFunc(random, arity, 10))
		}
		f, code := impl.ComposeFunc(outer, inner)
		expect(t, show(code, len(f) > 0 && f[0] == node(3, arity, many)), "0 true")
		args := someArguments(random, f)
		var values []int64
		made := int64(1)
		for _, g := range append(slices.Clone(inner), outer) {
			given := args
			if int64(len(values)) == many {
				given = values
			}
			value, steps, failed := impl.EvalFunc(g, given, 1000)
			if failed != impl.OK {
				code = failed
				break
			}
			made += steps
			values = append(values, value)
		}
		value, steps, got := impl.EvalFunc(f, args, impl.MaxBudget)
		if code == impl.OK {
			ended++
			expect(t, show(f, args, value, steps, got), show(f, args, values[many], made, impl.OK))
		} else {
			expect(t, show(f, args, value, steps, got), show(f, args, 0, 0, code))
		}
	}
	if ended < 1000 {
		t.Errorf("only %d evaluations end", ended)
	}
}

// The same holds for repetitions, with the base and the step for 0, 1 and so on.
func TestPromise12Repetitions(t *testing.T) {
	random := rand.New(rand.NewSource(243))
	ended := 0
	for range 2000 {
		arity := random.Int63n(mostArguments - 1)
		base, step := someFunc(random, arity, 10), someFunc(random, arity+2, 10)
		f, code := impl.RepeatFunc(base, step)
		expect(t, show(code, len(f) > 0 && f[0] == node(4, arity+1, 0)), "0 true")
		others := someArguments(random, base)
		value, made, code := impl.EvalFunc(base, others, 300)
		made++
		for times := range int64(7) {
			want := show(value, made, impl.OK)
			if code != impl.OK {
				want = noValue + show(code)
			}
			args := append([]int64{times}, others...)
			expect(t, show(f, args, show(impl.EvalFunc(f, args, impl.MaxBudget))), show(f, args, want))
			if code != impl.OK {
				break
			}
			ended++
			next, steps, failed := impl.EvalFunc(step, slices.Concat([]int64{times, value}, others), 300)
			value, made, code = next, made+steps, failed
		}
	}
	if ended < 3000 {
		t.Errorf("only %d evaluations end", ended)
	}
}

// And for searches, with the function for 0, 1 and so on up to the value.
func TestPromise12LeastZeros(t *testing.T) {
	t.Parallel()
	random := rand.New(rand.NewSource(244))
	minus := funcOf(t, "C(R(P1.0;C(R(Z0;P2.0);P3.1));P2.1,P2.0)")
	found := map[int64]int{}
	for range 6000 {
		g := someFunc(random, 1+random.Int63n(mostArguments), 20)
		if random.Intn(2) == 0 {
			// A difference is more often 0 for other numbers than for 0.
			g, _ = impl.ComposeFunc(minus, [][]impl.Func{g, someFunc(random, g[0].Arity, 20)})
		}
		f, code := impl.LeastFunc(g)
		expect(t, show(code, len(f) > 0 && f[0] == node(5, g[0].Arity-1, 0)), "0 true")
		args := someArguments(random, f)
		made := int64(1)
		for y := range int64(8) {
			value, steps, failed := impl.EvalFunc(g, append([]int64{y}, args...), 300)
			made += steps
			if failed == impl.OK && value > 0 {
				continue
			}
			want := show(y, made, impl.OK)
			if failed != impl.OK {
				want = noValue + show(failed)
			} else {
				found[y]++
			}
			expect(t, show(f, args, show(impl.EvalFunc(f, args, impl.MaxBudget))), show(f, args, want))
			break
		}
	}
	if found[0] < 1000 || found[1] < 50 || found[2]+found[3]+found[4] < 20 {
		t.Errorf("values of searches: %v", found)
	}
}

// badBudgets are no budgets.
var badBudgets = []int64{0, -1, impl.MaxBudget + 1, 1 << 32, math.MinInt64, math.MaxInt64}

// badArguments returns lists that are no arguments of a function with so many.
func badArguments(arity int64) [][]int64 {
	var all [][]int64
	for length := range 8 {
		if int64(length) != arity {
			all = append(all, repeat(0, length), repeat(-1, length))
		}
	}
	all = append(all, repeat(0, 100000))
	for at := range arity {
		for _, bad := range []int64{-1, mostCount + 1, 1 << 32, math.MinInt64, math.MaxInt64} {
			args := repeat(0, int(arity))
			args[at] = bad
			all = append(all, args)
		}
	}
	return slices.DeleteFunc(all, func(args []int64) bool { return arity == 0 && len(args) == 0 })
}

func TestPromise12EvaluationErrors(t *testing.T) {
	for i, f := range badFuncs() {
		for _, args := range [][]int64{nil, {0}, {0, 0}, {-1}, {mostCount + 1}, repeat(0, 65)} {
			for _, budget := range append([]int64{1, impl.MaxBudget}, badBudgets...) {
				expect(t, show(i, show(impl.EvalFunc(f, args, budget))), show(i, noValue+"1"))
			}
		}
	}
	// What is outside of its range counts before what would happen in the evaluation.
	for _, s := range append([]string{"C(Z4;S,S,S,S)", "M(C(S;P4.3))", "C(S;P3.2)", "C(S;P2.1)"}, someFuncTexts...) {
		f := funcOf(t, s)
		arity, _ := impl.ArityOf(f)
		great := repeat(mostCount, int(arity))
		for _, budget := range badBudgets {
			expect(t, show(s, budget, show(impl.EvalFunc(f, great, budget))), show(s, budget, noValue+"2"))
			expect(t, show(s, budget, show(impl.EvalFunc(f, append(great, 0), budget))), show(s, budget, noValue+"2"))
		}
		for _, args := range badArguments(arity) {
			for _, budget := range []int64{1, 2, 500, impl.MaxBudget, 0, impl.MaxBudget + 1} {
				expect(t, show(s, len(args), budget, show(impl.EvalFunc(f, args, budget))), show(s, len(args), budget, noValue+"2"))
			}
		}
		for _, budget := range []int64{1, 2, 500} {
			expectValue(t, f, great, budget)
			expectValue(t, f, repeat(0, int(arity)), budget)
		}
	}
}

func TestPromise12Tables(t *testing.T) {
	pred, next, zero := funcOf(t, "R(Z0;P2.0)"), funcOf(t, "S"), funcOf(t, "Z1")
	for _, many := range []int64{0, 1, 2, 3, 63, 64} {
		var predecessors, numbers []int64
		for n := range many {
			predecessors, numbers = append(predecessors, max(n-1, 0)), append(numbers, n+1)
		}
		expect(t, show(impl.TableOf(pred, many, 70)), show(predecessors, impl.OK))
		expect(t, show(impl.TableOf(next, many, 1)), show(numbers, impl.OK))
		expect(t, show(impl.TableOf(zero, many, impl.MaxBudget)), show(repeat(0, int(many)), impl.OK))
	}
	expect(t, show(impl.TableOf(funcOf(t, "R(Z0;C(S;Z2))"), 3, 100)), "[0 1 1] 0")
	expect(t, show(impl.TableOf(funcOf(t, "M(R(P1.0;Z3))"), 5, 100)), "[0 1 1 1 1] 0")
	// Each number has the whole budget: that for 63 takes 65 steps.
	for many := int64(0); many <= 64; many++ {
		for _, budget := range []int64{1, 2, 3, 64, 65, 66} {
			table, code := impl.TableOf(pred, many, budget)
			if many-1+2 > budget && many > 0 {
				expect(t, show(many, budget, table, code), show(many, budget, []int64{}, impl.ErrFull))
			} else {
				expect(t, show(many, budget, len(table), code), show(many, budget, many, impl.OK))
			}
		}
	}
	// No number is evaluated behind those that are asked for.
	least := funcOf(t, "M(P2.1)")
	expect(t, show(impl.TableOf(least, 0, 1)), "[] 0")
	expect(t, show(impl.TableOf(least, 1, 2)), "[0] 0")
	expect(t, show(impl.TableOf(least, 1, 1)), "[] 5")
	expect(t, show(impl.TableOf(least, 2, impl.MaxBudget)), "[] 5")
	expect(t, show(impl.TableOf(funcOf(t, "M(C(S;P2.0))"), 0, 1)), "[] 0")
	expect(t, show(impl.TableOf(funcOf(t, "M(C(S;P2.0))"), 1, impl.MaxBudget)), "[] 5")
}

func TestPromise12TablesAsByModel(t *testing.T) {
	random := rand.New(rand.NewSource(245))
	codes := map[int64]int{}
	for range 1000 {
		f, many, budget := someFunc(random, 1, 30), random.Int63n(20), 1+random.Int63n(100)
		var want []int64
		code := int64(impl.OK)
		for n := range many {
			m := funcModel{f: f, budget: budget}
			want = append(want, m.value(0, []int64{n}))
			if m.code != impl.OK {
				want, code = nil, m.code
				break
			}
		}
		codes[code]++
		table, got := impl.TableOf(f, many, budget)
		expect(t, show(f, many, budget, table, got), show(f, many, budget, want, code))
	}
	if codes[impl.OK] < 300 || codes[impl.ErrFull] < 100 {
		t.Errorf("tables with the codes 0 and 5: %v", codes)
	}
}

func TestPromise12TableErrors(t *testing.T) {
	for i, f := range badFuncs() {
		for _, many := range []int64{0, 1, 64, 65, -1} {
			for _, budget := range append([]int64{1, impl.MaxBudget}, badBudgets...) {
				expect(t, show(i, show(impl.TableOf(f, many, budget))), show(i, "[] 1"))
			}
		}
	}
	for _, s := range append([]string{"Z1", "Z2", "M(C(S;P1.0))"}, someFuncTexts...) {
		f := funcOf(t, s)
		for _, budget := range badBudgets {
			for _, many := range []int64{0, 1, 64, 65, -1} {
				expect(t, show(s, many, budget, show(impl.TableOf(f, many, budget))), show(s, many, budget, "[] 2"))
			}
		}
		for _, many := range []int64{65, 66, -1, 1 << 32, math.MinInt64, math.MaxInt64} {
			for _, budget := range []int64{1, impl.MaxBudget} {
				expect(t, show(s, many, budget, show(impl.TableOf(f, many, budget))), show(s, many, budget, "[] 2"))
			}
		}
		if f[0].Arity == 1 {
			continue
		}
		for _, many := range []int64{0, 1, 64} {
			expect(t, show(s, many, show(impl.TableOf(f, many, 1))), show(s, many, "[] 7"))
		}
	}
}
