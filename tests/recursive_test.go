package tests

import (
	"fmt"
	"math"
	"math/rand"
	"slices"
	"strings"
	"testing"

	"loop.example/g01079/impl"
)

const (
	// mostNodes is the greatest number of nodes of a function, and mostArguments that of its arguments.
	mostNodes     = 60
	mostArguments = 4
	// functionSigns are the signs of which texts of functions consist, with digits that are too great.
	functionSigns = "ZSPCRM(;,).0123459"
)

func funcOf(t *testing.T, s string) []impl.Func {
	t.Helper()
	return mustRead(t, impl.ReadFunc, s)
}

func node(kind, arity, index int64) impl.Func {
	return impl.Func{Kind: kind, Arity: arity, Index: index}
}

// longFunc returns a function that adds 1 to 0 again and again, with so many nodes: any odd number, or an even one from 4 on.
func longFunc(arity int64, nodes int) []impl.Func {
	f := []impl.Func{node(impl.FuncZero, arity, 0)}
	if nodes%2 == 0 {
		f = slices.Concat([]impl.Func{node(impl.FuncCompose, arity, 2), node(impl.FuncZero, 2, 0)}, f, f)
	}
	for len(f) < nodes {
		f = slices.Concat([]impl.Func{node(impl.FuncCompose, arity, 1), node(impl.FuncNext, 1, 0)}, f)
	}
	return f
}

// badNodes are nodes that no function has.
var badNodes = []impl.Func{
	node(-1, 0, 0), node(6, 0, 0), node(-1, 1, 0), node(6, 1, 0), node(7, 1, 1), node(math.MinInt64, 1, 0), node(math.MaxInt64, 1, 0), node(1<<32, 0, 0),
	node(0, -1, 0), node(0, 5, 0), node(0, 0, 1), node(0, 1, -1), node(0, 4, 1), node(0, math.MaxInt64, 0), node(0, math.MinInt64, 0), node(0, 0, math.MaxInt64), node(0, 1<<32, 0),
	node(1, 0, 0), node(1, 2, 0), node(1, 1, 1), node(1, 1, -1), node(1, -1, 0), node(1, math.MaxInt64, 0), node(1, 1, math.MinInt64),
	node(2, 0, 0), node(2, 5, 0), node(2, 1, 1), node(2, 1, -1), node(2, 4, 4), node(2, 3, 3), node(2, -1, 0), node(2, -1, -2), node(2, math.MaxInt64, 0), node(2, 4, math.MaxInt64), node(2, 4, math.MinInt64), node(2, math.MinInt64, math.MinInt64), node(2, 5, 4),
}

// badFuncs returns lists that are no functions, each for another reason.
func badFuncs() [][]impl.Func {
	zero, next := node(impl.FuncZero, 1, 0), node(impl.FuncNext, 1, 0)
	all := [][]impl.Func{
		nil, {}, longFunc(1, 61), longFunc(0, 62), longFunc(4, 1001), slices.Repeat([]impl.Func{next}, 61), slices.Repeat([]impl.Func{node(impl.FuncLeast, 0, 0)}, 100000),
		// Nodes that are missing or left over.
		{zero, zero}, {next, next}, {node(3, 1, 1)}, {node(3, 1, 1), next}, {node(3, 1, 1), next, zero, zero}, {node(3, 1, 2), node(2, 2, 0), next}, {node(3, 1, 2), node(2, 2, 0), next, next, next},
		{node(4, 1, 0)}, {node(4, 1, 0), node(0, 0, 0)}, {node(4, 1, 0), node(0, 0, 0), node(0, 2, 0), next}, {node(5, 0, 0)}, {node(5, 0, 0), next, next},
		// What follows has other arguments, or there are others than it says.
		{node(3, 1, 1), node(0, 2, 0), next}, {node(3, 1, 1), next, node(0, 2, 0)}, {node(3, 0, 1), next, next}, {node(3, 1, 2), node(0, 2, 0), next, node(0, 0, 0)}, {node(3, 1, 0), node(0, 0, 0)}, {node(3, 0, 0), node(0, 0, 0)}, {node(3, 1, 5), node(0, 5, 0), next, next, next, next, next},
		{node(3, 5, 1), next, node(0, 5, 0)}, {node(3, -1, 1), next, node(0, -1, 0)}, {node(3, 1, -1), next, next}, {node(3, 1, math.MaxInt64), next, next}, {node(3, math.MinInt64, 1), next, next}, {node(3, 2, 1), next, next},
		{node(4, 1, 1), node(0, 0, 0), node(0, 2, 0)}, {node(4, 1, -1), node(0, 0, 0), node(0, 2, 0)}, {node(4, 0, 0), node(0, -1, 0), next}, {node(4, 0, 0), node(0, 0, 0), node(0, 2, 0)}, {node(4, 4, 0), node(0, 3, 0), node(0, 5, 0)}, {node(4, 2, 0), node(0, 0, 0), node(0, 2, 0)}, {node(4, 1, 0), next, node(0, 2, 0)}, {node(4, 1, 0), node(0, 0, 0), node(0, 3, 0)}, {node(4, 1, 0), node(0, 2, 0), node(0, 0, 0)},
		{node(5, 0, 1), next}, {node(5, 0, -1), next}, {node(5, 1, 0), next}, {node(5, -1, 0), node(0, 0, 0)}, {node(5, 4, 0), node(0, 5, 0)}, {node(5, 3, 0), node(0, 3, 0)}, {node(5, math.MaxInt64, 0), node(0, math.MinInt64, 0)},
	}
	for _, bad := range badNodes {
		all = append(all, []impl.Func{bad}, []impl.Func{bad, next}, []impl.Func{next, bad}, []impl.Func{node(3, 1, 1), next, bad}, []impl.Func{node(3, 1, 1), bad, next}, []impl.Func{node(5, bad.Arity-1, 0), bad}, []impl.Func{node(3, bad.Arity, 1), next, bad})
	}
	return all
}

// someFuncTexts are those of functions of all kinds and arities, some with searches that do not end.
var someFuncTexts = []string{
	"Z0", "Z4", "S", "P1.0", "P4.3", "C(S;Z0)", "C(Z2;S,S)", "C(P4.2;Z3,P3.0,P3.1,P3.2)", "R(Z0;P2.0)", "R(P1.0;C(S;P3.1))", "R(Z2;P4.1)", "M(S)", "M(P1.0)", "M(P2.1)", "M(M(P2.0))", "M(Z4)",
	"C(R(P1.0;C(R(Z0;P2.0);P3.1));P2.1,P2.0)", "C(P2.0;S,M(C(S;P2.0)))", "M(C(M(P2.1);P2.1))",
}

func sampleFuncs() [][]impl.Func {
	bad := slices.DeleteFunc(badFuncs(), func(f []impl.Func) bool { return len(f) > mostNodes+1 })
	all := append(bad[:60], longFunc(0, 59), longFunc(1, 60), longFunc(4, 58), longFunc(2, 57))
	for _, s := range someFuncTexts {
		f, _ := impl.ReadFunc(s)
		all = append(all, f)
	}
	return all
}

// fewFuncs returns enough of them where a function has many parameters.
func fewFuncs() [][]impl.Func {
	all := [][]impl.Func{nil, {}, {node(6, 0, 0)}, {node(5, 0, 0)}, longFunc(1, 61), longFunc(1, 59), longFunc(3, 60)}
	for _, s := range someFuncTexts[:14] {
		f, _ := impl.ReadFunc(s)
		all = append(all, f)
	}
	return all
}

// sampleFuncTables returns lists of functions, with which some of the samples can be composed.
func sampleFuncTables() [][][]impl.Func {
	var funcs [][]impl.Func
	all := [][][]impl.Func{nil, {}, {nil}, {{}}, {nil, nil}, {{node(6, 0, 0)}}, slices.Repeat([][]impl.Func{longFunc(1, 29)}, 2), slices.Repeat([][]impl.Func{longFunc(0, 14)}, 4), slices.Repeat([][]impl.Func{{node(0, 1, 0)}}, 5), make([][]impl.Func, 70)}
	for _, s := range someFuncTexts {
		f, _ := impl.ReadFunc(s)
		funcs = append(funcs, f)
		all = append(all, [][]impl.Func{f}, [][]impl.Func{f, f}, [][]impl.Func{f, nil}, slices.Repeat([][]impl.Func{f}, 4))
	}
	return append(all, funcs[:4], funcs[4:8])
}

// followingArities returns how many arguments the functions that follow a node have, as the table of kinds has them, and
// whether there is such a node.
func followingArities(f impl.Func) ([]int64, bool) {
	n, i := f.Arity, f.Index
	switch f.Kind {
	case 0:
		return nil, n >= 0 && n <= mostArguments && i == 0
	case 1:
		return nil, n == 1 && i == 0
	case 2:
		return nil, n >= 1 && n <= mostArguments && i >= 0 && i < n
	case 3:
		if n < 0 || n > mostArguments || i < 1 || i > mostArguments {
			return nil, false
		}
		return append([]int64{i}, repeat(n, int(i))...), true
	case 4:
		return []int64{n - 1, n + 1}, n >= 1 && n < mostArguments && i == 0
	case 5:
		return []int64{n + 1}, n >= 0 && n < mostArguments && i == 0
	}
	return nil, false
}

// plainParts returns the indices at which the functions that follow a node begin, and then that behind the last one of them.
// It returns nil if there is no function at the node.
func plainParts(f []impl.Func, at int) []int {
	arities, ok := followingArities(f[at])
	if !ok {
		return nil
	}
	places := []int{at + 1}
	for _, arity := range arities {
		begin := places[len(places)-1]
		if begin >= len(f) || f[begin].Arity != arity {
			return nil
		}
		parts := plainParts(f, begin)
		if parts == nil {
			return nil
		}
		places = append(places, parts[len(parts)-1])
	}
	return places
}

// plainEnd returns the index behind the function at a node, and 0 if there is none.
func plainEnd(f []impl.Func, at int) int {
	parts := plainParts(f, at)
	if parts == nil {
		return 0
	}
	return parts[len(parts)-1]
}

func plainValid(f []impl.Func) bool {
	return len(f) >= 1 && len(f) <= mostNodes && plainEnd(f, 0) == len(f)
}

// plainFuncText returns the text of the function at a node.
func plainFuncText(f []impl.Func, at int) string {
	parts := plainParts(f, at)
	var texts []string
	for _, part := range parts[:len(parts)-1] {
		texts = append(texts, plainFuncText(f, part))
	}
	switch n := f[at]; n.Kind {
	case 0:
		return fmt.Sprintf("Z%d", n.Arity)
	case 1:
		return "S"
	case 2:
		return fmt.Sprintf("P%d.%d", n.Arity, n.Index)
	case 3:
		return fmt.Sprintf("C(%s;%s)", texts[0], strings.Join(texts[1:], ","))
	case 4:
		return fmt.Sprintf("R(%s;%s)", texts[0], texts[1])
	default:
		return fmt.Sprintf("M(%s)", texts[0])
	}
}

// allFuncs returns all functions with so many arguments and nodes.
func allFuncs(arity int64, nodes int) [][]impl.Func {
	if nodes < 1 {
		return nil
	}
	var all [][]impl.Func
	for kind := range int64(6) {
		for index := range int64(5) {
			first := node(kind, arity, index)
			arities, ok := followingArities(first)
			if !ok {
				continue
			}
			for _, others := range allFuncsInRow(arities, nodes-1) {
				all = append(all, append([]impl.Func{first}, others...))
			}
		}
	}
	return all
}

// allFuncsInRow returns all lists of so many nodes that are functions with so many arguments, one after the other.
func allFuncsInRow(arities []int64, nodes int) [][]impl.Func {
	if len(arities) == 0 {
		if nodes == 0 {
			return [][]impl.Func{nil}
		}
		return nil
	}
	var all [][]impl.Func
	for own := 1; own <= nodes; own++ {
		behind := allFuncsInRow(arities[1:], nodes-own)
		if len(behind) == 0 {
			continue
		}
		for _, f := range allFuncs(arities[0], own) {
			for _, others := range behind {
				all = append(all, slices.Concat(f, others))
			}
		}
	}
	return all
}

// allSmallFuncs returns all functions with at most so many nodes.
func allSmallFuncs(most int) [][]impl.Func {
	var all [][]impl.Func
	for nodes := 1; nodes <= most; nodes++ {
		for arity := range int64(mostArguments + 1) {
			all = append(all, allFuncs(arity, nodes)...)
		}
	}
	return all
}

// nestedFunc returns a function with so many arguments, nested at most so deep. It may have too many nodes.
func nestedFunc(random *rand.Rand, arity int64, depth int) []impl.Func {
	kinds := []int64{0, 1, 1, 1, 2, 2, 3, 3, 3, 4, 5}
	for {
		first := node(kinds[random.Intn(len(kinds))], arity, random.Int63n(mostArguments+1))
		if first.Kind != impl.FuncPick && first.Kind != impl.FuncCompose {
			first.Index = 0
		}
		arities, ok := followingArities(first)
		if !ok || depth == 0 && len(arities) > 0 {
			continue
		}
		f := []impl.Func{first}
		for _, other := range arities {
			f = append(f, nestedFunc(random, other, depth-1)...)
		}
		return f
	}
}

// someFunc returns a function with so many arguments and at most so many nodes.
func someFunc(random *rand.Rand, arity int64, most int) []impl.Func {
	for {
		f := nestedFunc(random, arity, random.Intn(5))
		if len(f) <= most {
			return f
		}
	}
}

// forSomeFuncs checks many functions.
func forSomeFuncs(seed int64, many int, check func(random *rand.Rand, f []impl.Func)) {
	random := rand.New(rand.NewSource(seed))
	for range many {
		check(random, someFunc(random, random.Int63n(mostArguments+1), mostNodes))
	}
}

func TestPromise12Constants(t *testing.T) {
	expect(t, show(impl.MaxFunc, impl.MaxArity), "60 4")
	expect(t, show(impl.FuncZero, impl.FuncNext, impl.FuncPick, impl.FuncCompose, impl.FuncRepeat, impl.FuncLeast), "0 1 2 3 4 5")
}

func TestPromise12Example(t *testing.T) {
	minus, code := impl.StandardFunc("minus")
	expect(t, show(code, impl.ValidFunc(minus)), "0 true")
	for _, c := range []struct{ a, b, want int64 }{{5, 3, 2}, {3, 5, 0}} {
		value, _, code := impl.EvalFunc(minus, []int64{c.a, c.b}, 400)
		expect(t, show(value, code), show(c.want, impl.OK))
	}
}

// Each kind with the least and the greatest Arity and Index, and with one outside of each.
func TestPromise12Kinds(t *testing.T) {
	for arity := int64(-2); arity <= 6; arity++ {
		for index := int64(-2); index <= 6; index++ {
			for kind := int64(-2); kind <= 8; kind++ {
				first := node(kind, arity, index)
				arities, ok := followingArities(first)
				f := []impl.Func{first}
				for _, other := range arities {
					f = append(f, node(impl.FuncZero, other, 0))
				}
				expect(t, show(f, impl.ValidFunc(f)), show(f, ok))
			}
		}
	}
	for _, s := range []string{
		"Z0", "Z1", "Z4", "S", "P1.0", "P2.0", "P2.1", "P4.0", "P4.3", "C(S;Z0)", "C(S;Z4)", "C(S;S)", "C(Z4;S,S,S,S)", "C(P4.3;Z0,Z0,Z0,Z0)", "C(P4.0;P4.3,P4.2,P4.1,P4.0)", "R(Z0;Z2)", "R(S;P3.2)", "R(Z2;P4.0)", "M(S)", "M(Z1)", "M(P2.0)", "M(Z4)",
	} {
		f, ok := impl.ReadFunc(s)
		expect(t, show(s, ok, impl.ValidFunc(f), impl.FuncText(f)), show(s, true, true, s))
	}
}

func TestPromise12ValidFuncs(t *testing.T) {
	for i, f := range badFuncs() {
		if impl.ValidFunc(f) {
			t.Errorf("the function %d is valid: %v", i, f)
		}
	}
	var nodes []impl.Func
	for kind := int64(-1); kind <= 6; kind++ {
		for arity := int64(-1); arity <= 5; arity++ {
			for index := int64(-1); index <= 5; index++ {
				nodes = append(nodes, node(kind, arity, index))
			}
		}
	}
	valid := 0
	for _, first := range nodes {
		for _, second := range nodes {
			for _, f := range [][]impl.Func{{first, second}, {first, node(0, 1, 0), second}} {
				if got := impl.ValidFunc(f); got != plainValid(f) {
					t.Errorf("%v: valid is %v", f, got)
				} else if got {
					valid++
				}
			}
		}
	}
	if valid < 30 {
		t.Errorf("only %d lists are functions", valid)
	}
	for _, f := range allSmallFuncs(5) {
		if !impl.ValidFunc(f) {
			t.Errorf("%v is not valid", f)
		}
	}
}

// A function in which one thing is changed is mostly no function.
func TestPromise12ChangedFuncs(t *testing.T) {
	valid := map[bool]int{}
	check := func(f []impl.Func) {
		t.Helper()
		got := impl.ValidFunc(f)
		valid[got]++
		expect(t, show(f, got), show(f, plainValid(f)))
	}
	forSomeFuncs(230, 1500, func(random *rand.Rand, f []impl.Func) {
		check(f)
		at := random.Intn(len(f))
		changed := slices.Clone(f)
		changed[at] = node(f[at].Kind+random.Int63n(3)-1, f[at].Arity+random.Int63n(3)-1, f[at].Index+random.Int63n(3)-1)
		check(changed)
		check(slices.Delete(slices.Clone(f), at, at+1))
		check(slices.Insert(slices.Clone(f), at, someFunc(random, random.Int63n(5), 3)...))
		check(slices.Concat(f, f[at:]))
		check(f[:at])
		check(f[at:])
		check(f[at:plainEnd(f, at)])
	})
	if valid[true] < 3000 || valid[false] < 3000 {
		t.Errorf("functions that are valid and others: %v", valid)
	}
}

func TestPromise12LongFuncs(t *testing.T) {
	for _, arity := range []int64{0, 1, 4} {
		for nodes := 55; nodes <= 65; nodes++ {
			f := longFunc(arity, nodes)
			fits := nodes <= 60
			text := plainFuncText(f, 0)
			expect(t, show(len(f), impl.ValidFunc(f), impl.IsPrimitive(f)), show(nodes, fits, fits))
			back, ok := impl.ReadFunc(text)
			got, code := impl.ArityOf(f)
			if fits {
				expect(t, show(impl.FuncText(f), back, ok, got, code), show(text, f, true, arity, impl.OK))
			} else {
				expect(t, show(impl.FuncText(f), back, ok, got, code), show("", []impl.Func{}, false, 0, impl.ErrInvalid))
			}
		}
	}
	// A function may also be as wide as it can be.
	inner := slices.Repeat([]impl.Func{node(impl.FuncPick, 4, 3)}, 4)
	wide := slices.Concat([]impl.Func{node(3, 4, 4), node(2, 4, 0)}, inner)
	wider := slices.Concat([]impl.Func{node(3, 4, 4), node(2, 4, 0)}, wide, wide, wide, wide)
	expect(t, show(len(wider), impl.ValidFunc(wider)), "26 true")
	expect(t, show(impl.ReadFunc(plainFuncText(wider, 0))), show(wider, true))
	widest := slices.Concat([]impl.Func{node(3, 4, 4), node(2, 4, 0)}, wider, wider, wider, wider)
	expect(t, show(len(widest), impl.ValidFunc(widest)), "106 false")
	expect(t, show(impl.ReadFunc(plainFuncText(widest, 0))), show([]impl.Func{}, false))
}

func TestPromise12Arities(t *testing.T) {
	check := func(f []impl.Func) {
		t.Helper()
		arity, code := impl.ArityOf(f)
		expect(t, show(f, arity, code), show(f, f[0].Arity, impl.OK))
	}
	forSomeFuncs(231, 300, func(_ *rand.Rand, f []impl.Func) { check(f) })
	for _, f := range allSmallFuncs(4) {
		check(f)
	}
	for i, f := range badFuncs() {
		arity, code := impl.ArityOf(f)
		expect(t, show(i, arity, code), show(i, 0, impl.ErrInvalid))
	}
}

func TestPromise12Ends(t *testing.T) {
	outside := func(f []impl.Func) []int64 {
		length := int64(len(f))
		return []int64{-1, -2, length, length + 1, -length, 1 << 32, math.MinInt64, math.MaxInt64}
	}
	check := func(f []impl.Func) {
		t.Helper()
		for at := range f {
			end, code := impl.FuncEnd(f, int64(at))
			expect(t, show(f, at, end, code), show(f, at, plainEnd(f, at), impl.OK))
		}
		for _, at := range outside(f) {
			end, code := impl.FuncEnd(f, at)
			expect(t, show(f, at, end, code), show(f, at, 0, impl.ErrRange))
		}
	}
	forSomeFuncs(232, 200, func(_ *rand.Rand, f []impl.Func) { check(f) })
	check(longFunc(0, 60))
	for i, f := range badFuncs() {
		if len(f) > 100 {
			continue
		}
		for _, at := range append(outside(f), 0, 1) {
			end, code := impl.FuncEnd(f, at)
			expect(t, show(i, at, end, code), show(i, at, 0, impl.ErrInvalid))
		}
	}
	// The index behind a function is that of the next one.
	minus := funcOf(t, "C(R(P1.0;C(R(Z0;P2.0);P3.1));P2.1,P2.0)")
	for at, want := range []int64{10, 8, 3, 8, 7, 6, 7, 8, 9, 10} {
		expect(t, show(impl.FuncEnd(minus, int64(at))), show(want, impl.OK))
	}
}

// plainSearches returns in how many searches a node stands at most, those counted that begin with it.
func plainSearches(f []impl.Func) int64 {
	var most int64
	for at := range f {
		var around int64
		for i, n := range f[:at+1] {
			if n.Kind == impl.FuncLeast && plainEnd(f, i) > at {
				around++
			}
		}
		most = max(most, around)
	}
	return most
}

func TestPromise12Searches(t *testing.T) {
	seen := map[int64]int{}
	check := func(f []impl.Func) {
		t.Helper()
		want := plainSearches(f)
		seen[want]++
		got, code := impl.SearchesOf(f)
		expect(t, show(f, got, code, impl.IsPrimitive(f)), show(f, want, impl.OK, want == 0))
	}
	forSomeFuncs(233, 2000, func(_ *rand.Rand, f []impl.Func) { check(f) })
	for _, f := range allSmallFuncs(4) {
		check(f)
	}
	for nested := range int64(4) {
		if seen[nested] < 10 {
			t.Errorf("only %d functions have searches nested %d deep", seen[nested], nested)
		}
	}
	for _, c := range []struct {
		text string
		want int64
	}{
		{"Z0", 0}, {"S", 0}, {"R(Z0;P2.0)", 0}, {"M(S)", 1}, {"M(M(P2.0))", 2}, {"M(M(M(P3.0)))", 3}, {"M(M(M(M(P4.0))))", 4},
		// Side by side, none belongs to the other; a search in a part of a part does.
		{"C(Z2;M(P2.0),M(P2.1))", 1}, {"C(M(P2.0);M(P2.0))", 1}, {"R(M(S);M(P3.0))", 1}, {"C(Z2;M(P2.0),M(M(P3.0)))", 2}, {"C(Z2;M(M(P3.0)),M(P2.0))", 2}, {"C(M(M(P3.0));Z0)", 2}, {"M(C(S;M(P2.0)))", 2}, {"M(C(M(P2.0);Z1))", 2}, {"M(R(M(S);Z2))", 2}, {"M(R(Z0;M(P3.0)))", 2}, {"M(C(Z2;S,C(Z2;M(P2.0),C(S;M(M(P3.0))))))", 3},
	} {
		f := funcOf(t, c.text)
		got, code := impl.SearchesOf(f)
		expect(t, show(c.text, got, code, impl.IsPrimitive(f)), show(c.text, c.want, impl.OK, c.want == 0))
	}
	for i, f := range badFuncs() {
		got, code := impl.SearchesOf(f)
		expect(t, show(i, got, code, impl.IsPrimitive(f)), show(i, 0, impl.ErrInvalid, false))
	}
	// Many more searches can be nested than a function has arguments.
	deep := "M(P2.0)"
	for nested := int64(2); nested <= 20; nested++ {
		deep = "M(C(" + deep + ";P2.0))"
		f := funcOf(t, deep)
		expect(t, show(len(f), plainSearches(f)), show(3*nested-1, nested))
		expect(t, show(impl.SearchesOf(f)), show(nested, impl.OK))
	}
}

func TestPromise12FuncTexts(t *testing.T) {
	check := func(f []impl.Func) {
		t.Helper()
		text := impl.FuncText(f)
		expect(t, text, plainFuncText(f, 0))
		back, ok := impl.ReadFunc(text)
		expect(t, show(back, ok), show(f, true))
	}
	forSomeFuncs(234, 1000, func(_ *rand.Rand, f []impl.Func) { check(f) })
	for _, f := range allSmallFuncs(5) {
		check(f)
	}
	for _, s := range someFuncTexts {
		check(funcOf(t, s))
	}
	for i, f := range badFuncs() {
		expect(t, show(i, impl.FuncText(f)), show(i, ""))
	}
	expect(t, show(impl.ReadFunc("C(P2.1;S,Z1)")), show([]impl.Func{node(3, 1, 2), node(2, 2, 1), node(1, 1, 0), node(0, 1, 0)}, true))
	expect(t, show(impl.ReadFunc("R(P1.0;C(S;P3.1))")), show([]impl.Func{node(4, 2, 0), node(2, 1, 0), node(3, 3, 1), node(1, 1, 0), node(2, 3, 1)}, true))
	expect(t, show(impl.ReadFunc("M(P4.2)")), show([]impl.Func{node(5, 3, 0), node(2, 4, 2)}, true))
}

// No text is read but those of functions: all short ones are tried, and those of small functions with one sign changed.
func TestPromise12NearlyFuncTexts(t *testing.T) {
	texts := map[string]bool{}
	for _, f := range allSmallFuncs(4) {
		texts[plainFuncText(f, 0)] = true
	}
	read := 0
	check := func(s string) {
		t.Helper()
		f, ok := impl.ReadFunc(s)
		if ok != texts[s] || ok && plainFuncText(f, 0) != s || !ok && f != nil {
			t.Errorf("%q is read as %v, %v", s, f, ok)
		}
		if ok {
			read++
		}
	}
	short := []string{""}
	for range 4 {
		var longer []string
		for _, s := range short {
			for _, sign := range functionSigns {
				longer = append(longer, s+string(sign))
			}
		}
		for _, s := range longer {
			check(s)
		}
		short = longer
	}
	if read != 17 {
		t.Errorf("%d of the texts with at most 4 signs are read", read)
	}
	for _, f := range allSmallFuncs(3) {
		s := plainFuncText(f, 0)
		for at := range len(s) + 1 {
			check(s[:at])
			check(s[at:])
			for _, sign := range functionSigns {
				check(s[:at] + string(sign) + s[at:])
				if at < len(s) {
					check(s[:at] + string(sign) + s[at+1:])
				}
			}
			if at < len(s) {
				check(s[:at] + s[at+1:])
			}
		}
	}
}

func TestPromise12OtherFuncTexts(t *testing.T) {
	bad := []string{
		"", " ", "-", ".", "Z", "Z5", "Z9", "Z10", "Z00", "Z01", "Z-1", "Z-0", "Z+1", "Z 1", "Z1 ", " Z1", "z1", "Za", "Z\uff11", "\uff3a1", "Z\x00", "Z1\x00", "Z1\n", "Z1;", "Z1,Z1", "Z1)", "(Z1)", "Z(1)", "Z1.0",
		"s", "S1", "SS", "S ", "S;", "S()", "(S)", "P", "P1", "P1.", "P.0", "P0.0", "P1.1", "P2.2", "P4.4", "P5.0", "P5.4", "P1.-1", "P01.0", "P1.00", "P1.01", "P1,0", "P1:0", "P1 .0", "P1. 0", "P1..0", "P10", "p1.0", "P1.0.0", "P+1.0", "P1.+0", "P12.0", "P4.33", "P18446744073709551617.0",
		"C", "C(", "C()", "C(;)", "C(S)", "C(S;)", "C(S,S)", "C(;S)", "C(S;S", "C(S;S;S)", "C(S;S,)", "C(S;,S)", "C(S;S))", "C((S;S))", "C((S);S)", "C(S;(S))", "C[S;S]", "CS;S", "C(S; S)", "C( S;S)", "C (S;S)", "C(S ;S)", "C(S;S )", "c(S;S)", "C(S:S)", "C(S.S)",
		"C(S;S,S)", "C(P2.0;S)", "C(P2.0;S,S,S)", "C(P2.0;S;S)", "C(P2.0,S,S)", "C(Z0;)", "C(Z0)", "C(Z0;Z0)", "C(Z2;S,Z0)", "C(Z2;Z0,S)", "C(Z4;S,S,S,Z2)", "C(Z4;S,S,S,S,S)", "C(Z5;S,S,S,S,S)", "C(S;Z5)", "C(S;P2.2)", "C(S;C(S;S)", "C(S;C(S;S)))",
		"R", "R()", "R(Z0)", "R(Z0;)", "R(;P2.0)", "R(Z0,P2.0)", "R(Z0;P2.0", "R(Z0;P2.0;)", "R(Z0;P2.0,P2.0)", "R(Z0;P2.0;P2.0)", "R(Z0;P1.0)", "R(Z0;P3.0)", "R(Z0;S)", "R(Z1;P2.0)", "R(Z3;Z4)", "R(Z3;Z5)", "R(P2.0;Z0)", "R(Z2;Z2)", "r(Z0;P2.0)", "R(Z0; P2.0)", "RZ0;P2.0",
		"M", "M()", "M(Z0)", "M(S", "M(S))", "M(S;S)", "M(S,S)", "M(S;)", "M(;S)", "M(C(S;Z0))", "M(M(S))", "M(Z5)", "M((S))", "M( S)", "m(S)", "MS",
		"add", "pred", "C(add;S,S)", "R(Z1;C(add;P3.2,P3.1))", "Z1+", "0", "x", "\xff", "S\xff", "C(S;\xc3)", "A(S)", "Z\u0661", "C\uff08S;S\uff09",
		strings.Repeat("C(S;", 100000), strings.Repeat("M(", 1000000), strings.Repeat("S", 1000000), strings.Repeat("C(S;", 100000) + "Z0" + strings.Repeat(")", 100000), "Z" + strings.Repeat("0", 100000), "P4." + strings.Repeat("9", 100000), strings.Repeat("(", 100000), "C(Z4;" + strings.Repeat("S,", 100000) + "S)", strings.Repeat("R(Z0;", 100000),
	}
	for _, s := range bad {
		f, ok := impl.ReadFunc(s)
		if ok || f != nil {
			t.Errorf("%.80q is read as %v, %v", s, f, ok)
		}
	}
}
