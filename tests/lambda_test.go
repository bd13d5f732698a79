package tests

import (
	"fmt"
	"math"
	"math/rand"
	"slices"
	"strconv"
	"strings"
	"testing"

	"loop.example/g01079/impl"
)

const (
	// mostElements is the greatest number of elements of a term, and mostIndex the greatest Index of one.
	mostElements = 400
	mostIndex    = 399
	// lamSigns are the signs of which texts of lambda terms consist, with some that do not belong there.
	lamSigns = "0139^^^((())) xSKI-"
)

var (
	lamAbs = impl.Lam{Kind: impl.LamAbs}
	lamApp = impl.Lam{Kind: impl.LamApp}
)

func lamVar(index int64) impl.Lam { return impl.Lam{Kind: impl.LamVar, Index: index} }

func lamOf(t *testing.T, s string) []impl.Lam {
	t.Helper()
	return mustRead(t, impl.ReadLam, s)
}

// below returns a term below so many abstractions.
func below(abstractions int, x []impl.Lam) []impl.Lam {
	return append(slices.Repeat([]impl.Lam{lamAbs}, abstractions), x...)
}

// appliedTo returns the application of a term to others, from left to right.
func appliedTo(x []impl.Lam, args ...[]impl.Lam) []impl.Lam {
	return slices.Concat(slices.Repeat([]impl.Lam{lamApp}, len(args)), x, slices.Concat(args...))
}

// longLam returns a term with so many elements: a variable that is applied to itself again and again, and for an even number
// an abstraction around it.
func longLam(index int64, elements int) []impl.Lam {
	x := []impl.Lam{lamVar(index)}
	x = appliedTo(x, slices.Repeat([][]impl.Lam{x}, (elements-1)/2)...)
	return below((elements-1)%2, x)
}

// deepLam returns a term with so many elements, an odd number, in which the last of them is in most applications.
func deepLam(index int64, elements int) []impl.Lam {
	return append(slices.Repeat([]impl.Lam{lamApp, lamVar(index)}, elements/2), lamVar(index))
}

// badLams returns lists that are no terms, each for another reason.
func badLams() [][]impl.Lam {
	zero := []impl.Lam{lamVar(0)}
	all := [][]impl.Lam{
		nil, {}, {lamAbs}, {lamApp}, {lamAbs, lamAbs}, {lamApp, lamVar(0)}, {lamApp, lamAbs, lamVar(0)}, {lamApp, lamApp, lamVar(0), lamVar(0)}, {lamAbs, lamApp, lamVar(0)},
		{lamVar(0), lamVar(0)}, {lamAbs, lamVar(0), lamVar(0)}, {lamApp, lamVar(0), lamVar(0), lamVar(0)}, {lamVar(0), lamAbs}, {lamVar(0), lamApp, lamVar(0), lamVar(0)},
		longLam(0, mostElements+1), longLam(0, mostElements+2), longLam(1, 1001), deepLam(0, mostElements+1), below(mostElements, zero), below(100000, zero), append(longLam(0, mostElements), lamVar(0)),
		slices.Repeat([]impl.Lam{lamApp}, 100000), slices.Repeat([]impl.Lam{lamAbs}, mostElements), deepLam(0, 100001), slices.Repeat(zero, mostElements), longLam(0, mostElements)[:mostElements-1], longLam(0, mostElements-1)[1:],
	}
	for _, bad := range []impl.Lam{
		{Kind: -1}, {Kind: 3}, {Kind: 4}, {Kind: math.MinInt64}, {Kind: math.MaxInt64}, {Kind: 1 << 32}, {Kind: 3, Index: 1}, {Kind: -1, Index: -1},
		lamVar(-1), lamVar(mostIndex + 1), lamVar(mostIndex + 2), lamVar(math.MinInt64), lamVar(math.MaxInt64), lamVar(1 << 32),
	} {
		all = append(all, []impl.Lam{bad}, []impl.Lam{lamAbs, bad}, []impl.Lam{lamApp, bad, lamVar(0)}, []impl.Lam{lamApp, lamVar(0), bad}, append(longLam(0, mostElements-1)[:mostElements-2], bad))
	}
	for _, index := range []int64{-1, 1, mostIndex, 1 << 32, math.MinInt64, math.MaxInt64} {
		all = append(all, []impl.Lam{{Kind: impl.LamAbs, Index: index}, lamVar(0)}, []impl.Lam{{Kind: impl.LamApp, Index: index}, lamVar(0), lamVar(0)}, []impl.Lam{lamApp, lamVar(0), {Kind: impl.LamAbs, Index: index}, lamVar(0)})
	}
	return all
}

// someLamTexts are those of terms of all kinds, some without an end.
var someLamTexts = []string{
	"0", "399", "^0", "^^1", "^^^((2 0) (1 0))", "(0 0)", "(0 ^(0 2))", "(^(0 0) ^0)", "(^(0 0) ^(0 0))", "(^((0 0) 0) ^((0 0) 0))", "^(^^2 0)", "(^^(1 0) 3)", "^(^(1 0) ^1)", "((^^1 5) (^(0 0) ^(0 0)))",
	"^(^(1 (0 0)) ^(1 (0 0)))", "^^(1 (1 0))", "((^^^^((3 1) ((2 1) 0)) ^^(1 0)) ^^(1 (1 0)))", "(1 ^(0 (2 ^(3 0))))",
}

func sampleLams() [][]impl.Lam {
	bad := slices.DeleteFunc(badLams(), func(x []impl.Lam) bool { return len(x) > mostElements+1 })
	all := append(bad[:30], longLam(0, mostElements), longLam(mostIndex, mostElements-1), deepLam(1, mostElements-1), below(mostElements-1, []impl.Lam{lamVar(mostIndex)}), appliedTo([]impl.Lam{lamAbs, lamVar(1)}, longLam(3, 397)), appliedTo(longLam(0, 6), longLam(0, 150)))
	for _, s := range someLamTexts {
		x, _ := impl.ReadLam(s)
		all = append(all, x)
	}
	return all
}

// fewLams returns enough of them where a function has many parameters.
func fewLams() [][]impl.Lam {
	all := [][]impl.Lam{nil, {}, {{Kind: 3}}, {{Kind: impl.LamAbs}}, longLam(0, mostElements+1), longLam(0, mostElements), longLam(2, 199), below(mostElements-1, []impl.Lam{lamVar(mostIndex)})}
	for _, s := range someLamTexts[:12] {
		x, _ := impl.ReadLam(s)
		all = append(all, x)
	}
	return all
}

// sampleLamTables returns lists of arguments.
func sampleLamTables() [][][]impl.Lam {
	all := [][][]impl.Lam{nil, {}, {nil}, {{}}, {nil, nil}, {{{Kind: 3}}}, {longLam(0, mostElements)}, slices.Repeat([][]impl.Lam{longLam(0, 131)}, 3), slices.Repeat([][]impl.Lam{{lamVar(1)}}, 200), make([][]impl.Lam, 70)}
	for _, s := range someLamTexts[5:10] {
		x, _ := impl.ReadLam(s)
		all = append(all, [][]impl.Lam{x}, [][]impl.Lam{x, x}, [][]impl.Lam{x, nil}, [][]impl.Lam{{lamVar(0)}, x, {lamVar(2)}})
	}
	return all
}

// plainLength returns how many elements belong to the term with which a list begins, and 0 if there is none.
func plainLength(x []impl.Lam) int {
	missing := 1
	for at, e := range x {
		switch {
		case e.Kind == 0 && e.Index >= 0 && e.Index <= mostIndex:
			missing--
		case e.Kind == 1 && e.Index == 0:
		case e.Kind == 2 && e.Index == 0:
			missing++
		default:
			return 0
		}
		if missing == 0 {
			return at + 1
		}
	}
	return 0
}

func plainValidLam(x []impl.Lam) bool {
	return len(x) >= 1 && len(x) <= mostElements && plainLength(x) == len(x)
}

// plainLamText returns the text of a valid term.
func plainLamText(x []impl.Lam) string {
	switch x[0].Kind {
	case 0:
		return fmt.Sprint(x[0].Index)
	case 1:
		return "^" + plainLamText(x[1:])
	}
	behind := 1 + plainLength(x[1:])
	return "(" + plainLamText(x[1:behind]) + " " + plainLamText(x[behind:]) + ")"
}

// plainLamIn returns the term with which a text begins, and what stands behind it.
func plainLamIn(s string) (x []impl.Lam, rest string, ok bool) {
	if inner, has := strings.CutPrefix(s, "^"); has {
		x, rest, ok = plainLamIn(inner)
		return append([]impl.Lam{lamAbs}, x...), rest, ok
	}
	if inner, has := strings.CutPrefix(s, "("); has {
		f, rest, function := plainLamIn(inner)
		inner, blank := strings.CutPrefix(rest, " ")
		if !function || !blank {
			return nil, s, false
		}
		a, rest, argument := plainLamIn(inner)
		rest, closed := strings.CutPrefix(rest, ")")
		return appliedTo(f, a), rest, argument && closed
	}
	rest = strings.TrimLeft(s, "0123456789")
	index, ok := plainIndex(strings.TrimSuffix(s, rest))
	return []impl.Lam{lamVar(index)}, rest, ok
}

// plainIndex returns the Index with a decimal form.
func plainIndex(s string) (int64, bool) {
	index, err := strconv.Atoi(s)
	return int64(index), err == nil && index >= 0 && index <= mostIndex && strconv.Itoa(index) == s
}

// expectLamRead checks that a text is read as plainLamIn does, and reports whether it is one.
func expectLamRead(t *testing.T, s string) bool {
	t.Helper()
	// No element makes a text longer by more than this.
	fits := len(s) <= 4*mostElements
	var x []impl.Lam
	if fits {
		var rest string
		var ok bool
		x, rest, ok = plainLamIn(s)
		fits = ok && rest == "" && len(x) <= mostElements
	}
	if !fits {
		got, ok := impl.ReadLam(s)
		expect(t, fmt.Sprintf("%.80q %v %v", s, got, ok), fmt.Sprintf("%.80q [] false", s))
		return false
	}
	expect(t, show(s, show(impl.ReadLam(s))), show(s, show(x, true)))
	expect(t, impl.LamText(x), s)
	return true
}

// allLams returns, for each number of elements up to the last one, all terms with variables below a limit.
func allLams(most int, indices int64) [][][]impl.Lam {
	all := make([][][]impl.Lam, most+1)
	for index := range indices {
		all[1] = append(all[1], []impl.Lam{lamVar(index)})
	}
	for elements := 2; elements <= most; elements++ {
		for _, body := range all[elements-1] {
			all[elements] = append(all[elements], below(1, body))
		}
		for own := 1; own < elements-1; own++ {
			for _, f := range all[own] {
				for _, a := range all[elements-1-own] {
					all[elements] = append(all[elements], appliedTo(f, a))
				}
			}
		}
	}
	return all
}

// smallLams returns all terms with at most so many elements.
func smallLams(most int, indices int64) [][]impl.Lam { return slices.Concat(allLams(most, indices)...) }

// someLam returns a term with so many elements below so many abstractions; some of its variables are free.
func someLam(random *rand.Rand, elements int, depth int64) []impl.Lam {
	switch {
	case elements == 1:
		return []impl.Lam{lamVar(random.Int63n(depth + 1 + random.Int63n(3)))}
	case elements == 2 || random.Intn(3) == 0:
		return below(1, someLam(random, elements-1, depth+1))
	}
	own := 1 + random.Intn(elements-2)
	f := someLam(random, own, depth)
	if own > 1 && random.Intn(2) == 0 {
		// So there are more redexes.
		f = below(1, someLam(random, own-1, depth+1))
	}
	return appliedTo(f, someLam(random, elements-1-own, depth))
}

// forSomeLams checks many terms with at most so many elements.
func forSomeLams(seed int64, many, most int, check func(random *rand.Rand, x []impl.Lam)) {
	random := rand.New(rand.NewSource(seed))
	for range many {
		check(random, someLam(random, 1+random.Intn(most), 0))
	}
}

// namedLam is a term in which variables have names. All abstractions have different ones, so that nothing has to be shifted
// when a term stands elsewhere.
type namedLam struct {
	kind int64
	// The name of a variable, or of the one that an abstraction binds.
	name string
	// The outer index of a free variable.
	outer int64
	parts []*namedLam
}

// namer gives names that have not been there before.
type namer struct{ given int }

func (n *namer) another() string {
	n.given++
	return fmt.Sprint("bound ", n.given)
}

func freeLam(outer int64) *namedLam {
	return &namedLam{kind: impl.LamVar, name: fmt.Sprint("free ", outer), outer: outer}
}

// named returns a valid term with names, below abstractions with others.
func (n *namer) named(x []impl.Lam, around ...string) *namedLam {
	switch x[0].Kind {
	case impl.LamVar:
		if x[0].Index < int64(len(around)) {
			return &namedLam{kind: impl.LamVar, name: around[len(around)-1-int(x[0].Index)]}
		}
		return freeLam(x[0].Index - int64(len(around)))
	case impl.LamAbs:
		name := n.another()
		return &namedLam{kind: impl.LamAbs, name: name, parts: []*namedLam{n.named(x[1:], append(slices.Clone(around), name)...)}}
	}
	behind := 1 + plainLength(x[1:])
	return &namedLam{kind: impl.LamApp, parts: []*namedLam{n.named(x[1:behind], around...), n.named(x[behind:], around...)}}
}

// list returns the term without names.
func (x *namedLam) list(around ...string) []impl.Lam {
	switch x.kind {
	case impl.LamVar:
		for between := range len(around) {
			if around[len(around)-1-between] == x.name {
				return []impl.Lam{lamVar(int64(between))}
			}
		}
		return []impl.Lam{lamVar(x.outer + int64(len(around)))}
	case impl.LamAbs:
		return below(1, x.parts[0].list(append(slices.Clone(around), x.name)...))
	}
	return appliedTo(x.parts[0].list(around...), x.parts[1].list(around...))
}

// with returns a copy of a term with new names, in which other terms stand for variables.
func (n *namer) with(x *namedLam, others map[string]*namedLam) *namedLam {
	switch x.kind {
	case impl.LamVar:
		if by, has := others[x.name]; has {
			return n.with(by, nil)
		}
		return x
	case impl.LamAbs:
		name := n.another()
		inside := map[string]*namedLam{x.name: {kind: impl.LamVar, name: name}}
		for each, by := range others {
			inside[each] = by
		}
		return &namedLam{kind: impl.LamAbs, name: name, parts: []*namedLam{n.with(x.parts[0], inside)}}
	}
	return &namedLam{kind: impl.LamApp, parts: []*namedLam{n.with(x.parts[0], others), n.with(x.parts[1], others)}}
}

// free returns the free variables of a term, in the order in which they stand there.
func (x *namedLam) free() []*namedLam {
	if x.kind == impl.LamVar && strings.HasPrefix(x.name, "free") {
		return []*namedLam{x}
	}
	var all []*namedLam
	for _, part := range x.parts {
		all = append(all, part.free()...)
	}
	return all
}

// lamResult writes what a function returns for a list that should be a term: ErrFull if it is not valid.
func lamResult(x []impl.Lam) string {
	if !plainValidLam(x) {
		return show([]impl.Lam{}, impl.ErrFull)
	}
	return show(x, impl.OK)
}

// expectFree compares the free variables of a term with those that have names, and reports whether there are none.
func expectFree(t *testing.T, x []impl.Lam) bool {
	t.Helper()
	var want []int64
	for _, v := range new(namer).named(x).free() {
		want = append(want, v.outer)
	}
	slices.Sort(want)
	want = slices.Compact(want)
	expect(t, show(x, show(impl.FreeIndices(x)), impl.IsClosedLam(x)), show(x, show(want, impl.OK), len(want) == 0))
	return len(want) == 0
}

// expectShift compares a term that is shifted with one in which variables have other names, and returns what is expected.
func expectShift(t *testing.T, x []impl.Lam, from, by int64) string {
	t.Helper()
	named := new(namer).named(x)
	for _, v := range named.free() {
		if v.outer >= from {
			*v = *freeLam(v.outer + by)
		}
	}
	want := lamResult(named.list())
	expect(t, show(x, from, by, show(impl.ShiftLam(x, from, by))), show(x, from, by, want))
	return want
}

// expectSubstitution compares a term, in which another one is put for a variable, with one that has names, and returns what
// is expected.
func expectSubstitution(t *testing.T, x []impl.Lam, k int64, by []impl.Lam) string {
	t.Helper()
	n := new(namer)
	put := map[string]*namedLam{freeLam(k).name: n.named(by)}
	want := lamResult(n.with(n.named(x), put).list())
	expect(t, show(x, k, by, show(impl.SubstituteLam(x, k, by))), show(x, k, by, want))
	return want
}

func TestPromise13Constants(t *testing.T) {
	expect(t, show(impl.MaxLam, impl.MaxNumeral), "400 150")
	expect(t, show(impl.LamVar, impl.LamAbs, impl.LamApp), "0 1 2")
	expect(t, show(impl.CombApp, impl.CombS, impl.CombK, impl.CombI, impl.CombVar), "0 1 2 3 4")
}

func TestPromise13ValidLams(t *testing.T) {
	for i, x := range badLams() {
		if impl.ValidLam(x) || plainValidLam(x) {
			t.Errorf("the term %d is valid: %v", i, x)
		}
	}
	for _, index := range []int64{0, 1, mostIndex - 1, mostIndex} {
		for _, x := range [][]impl.Lam{{lamVar(index)}, {lamAbs, lamVar(index)}, {lamApp, lamVar(index), lamVar(0)}, {lamApp, lamVar(0), lamVar(index)}} {
			expect(t, show(x, impl.ValidLam(x)), show(x, true))
		}
	}
	var elements []impl.Lam
	for kind := int64(-1); kind <= 3; kind++ {
		for index := int64(-1); index <= 1; index++ {
			elements = append(elements, impl.Lam{Kind: kind, Index: index})
		}
	}
	lists := [][]impl.Lam{nil}
	valid := 0
	for range 4 {
		var longer [][]impl.Lam
		for _, list := range lists {
			for _, e := range elements {
				longer = append(longer, append(slices.Clone(list), e))
			}
		}
		for _, x := range longer {
			if got := impl.ValidLam(x); got != plainValidLam(x) {
				t.Errorf("%v: valid is %v", x, got)
			} else if got {
				valid++
			}
		}
		lists = longer
	}
	if valid != len(smallLams(4, 2)) {
		t.Errorf("%d terms are valid, want %d", valid, len(smallLams(4, 2)))
	}
}

// A term in which one thing is changed is mostly no term.
func TestPromise13ChangedLams(t *testing.T) {
	valid := map[bool]int{}
	check := func(x []impl.Lam) {
		t.Helper()
		got := impl.ValidLam(x)
		valid[got]++
		expect(t, show(x, got), show(x, plainValidLam(x)))
	}
	forSomeLams(250, 2000, 30, func(random *rand.Rand, x []impl.Lam) {
		check(x)
		at := random.Intn(len(x))
		changed := slices.Clone(x)
		changed[at] = impl.Lam{Kind: x[at].Kind + random.Int63n(3) - 1, Index: x[at].Index + random.Int63n(3) - 1}
		check(changed)
		check(slices.Delete(slices.Clone(x), at, at+1))
		check(slices.Insert(slices.Clone(x), at, []impl.Lam{lamVar(3), lamAbs, lamApp}[random.Intn(3)]))
		check(slices.Concat(x, x[at:]))
		check(x[:at])
		check(x[at:])
		check(x[at : at+plainLength(x[at:])])
	})
	if valid[true] < 4000 || valid[false] < 4000 {
		t.Errorf("terms that are valid and others: %v", valid)
	}
}

func TestPromise13LongLams(t *testing.T) {
	for elements := mostElements - 5; elements <= mostElements+5; elements++ {
		all := [][]impl.Lam{longLam(7, elements), longLam(0, elements), below(elements-1, []impl.Lam{lamVar(mostIndex)}), below(elements-1, []impl.Lam{lamVar(0)})}
		if elements%2 == 1 {
			all = append(all, deepLam(mostIndex, elements))
		}
		for _, x := range all {
			fits := elements <= mostElements
			text := plainLamText(x)
			expect(t, show(len(x), impl.ValidLam(x), impl.IsNormalLam(x)), show(elements, fits, fits))
			if fits {
				expect(t, impl.LamText(x), text)
				expect(t, show(impl.ReadLam(text)), show(x, true))
				expectFree(t, x)
			} else {
				expect(t, impl.LamText(x), "")
				expect(t, show(impl.ReadLam(text)), "[] false")
				expect(t, show(impl.FreeIndices(x)), "[] 1")
				expect(t, show(impl.IsClosedLam(x)), "false")
			}
		}
	}
}

// Terms are read from their texts.
func TestPromise13LamTexts(t *testing.T) {
	t.Parallel()
	for _, x := range smallLams(7, 3) {
		text := plainLamText(x)
		expect(t, impl.LamText(x), text)
		expect(t, show(text, show(impl.ReadLam(text))), show(text, show(x, true)))
	}
	for index := range int64(mostIndex + 1) {
		x := []impl.Lam{lamApp, lamVar(index), lamAbs, lamVar(mostIndex - index)}
		text := fmt.Sprintf("(%d ^%d)", index, mostIndex-index)
		expect(t, impl.LamText(x), text)
		expect(t, show(impl.ReadLam(text)), show(x, true))
	}
	forSomeLams(251, 1000, mostElements, func(_ *rand.Rand, x []impl.Lam) {
		text := plainLamText(x)
		expect(t, impl.LamText(x), text)
		expect(t, show(text, show(impl.ReadLam(text))), show(text, show(x, true)))
	})
	for i, x := range badLams() {
		expect(t, show(i, impl.LamText(x)), show(i, ""))
	}
}

func TestPromise13OtherLamTexts(t *testing.T) {
	t.Parallel()
	for _, s := range []string{
		"", " ", "^", "(", ")", "()", "( )", "(0)", "(0 )", "( 0)", "(0 0", "0 0", "(0 0))", "((0 0)", "(0 0 0)", "(0  0)", "(0 0) ", " (0 0)", "( 0 0)", "(0 0 )", "0)", "(0,0)", "(0\t0)", "(0 0)\n", "[0 0]",
		"^ 0", "0^", "^^", "^()", "^(0)", "(^ 0)", "(^0 )", "(0 ^)", "(0^ 0)", "(^0^0)", "^0 0", "^0^0", "\\0", "λ0", "^.0", "^0.", "^x", "x", "x0", "^x0", "S", "K", "I", "(S K)", "(^0 I)", "(0 x1)",
		"400", "401", "1000", "00", "01", "007", "+1", "-0", "-1", "1e2", "0x1", "1.0", "1_0", "^400", "(400 0)", "(0 400)", "^00", "(0 01)", "9223372036854775808", "18446744073709551616", "\uff10", "0\x00", "\x00", "\xff", "^\xff", "(0 \u00e9)",
		strings.Repeat("9", 100000), strings.Repeat("0", 100000), strings.Repeat("(", 100000), strings.Repeat("^", 100000), strings.Repeat(")", 100000), strings.Repeat(" ", 100000), strings.Repeat("(0 ", 50000) + "0" + strings.Repeat(")", 50000),
		strings.Repeat("(", 50000) + "0" + strings.Repeat(" 0)", 50000), strings.Repeat("^", 99999) + "0", strings.Repeat("^", mostElements) + "0", "0" + strings.Repeat(" ", mostElements), strings.Repeat("x", 100000),
	} {
		if expectLamRead(t, s) {
			t.Errorf("%.80q is a text", s)
		}
	}
	texts := []string{""}
	read := 0
	for range 7 {
		var longer []string
		for _, s := range texts {
			for _, sign := range "01^() " {
				longer = append(longer, s+string(sign))
			}
		}
		for _, s := range longer {
			if expectLamRead(t, s) {
				read++
			}
		}
		texts = longer
	}
	if read < 100 {
		t.Errorf("only %d texts are read", read)
	}
}

// A text in which one thing is changed is mostly no text.
func TestPromise13ChangedLamTexts(t *testing.T) {
	read := map[bool]int{}
	forSomeLams(252, 3000, 25, func(random *rand.Rand, x []impl.Lam) {
		s := plainLamText(x)
		at := random.Intn(len(s))
		sign := string(lamSigns[random.Intn(len(lamSigns))])
		for _, changed := range []string{s[:at] + s[at+1:], s[:at] + sign + s[at:], s[:at] + sign + s[at+1:], s[:at], s[at:], s + s[at:], s[:at] + " " + s[at:], s + " "} {
			read[expectLamRead(t, changed)]++
		}
	})
	if read[true] < 1500 || read[false] < 10000 {
		t.Errorf("texts that are read and others: %v", read)
	}
}

func TestPromise13FreeVariables(t *testing.T) {
	for _, c := range []struct{ text, want string }{
		{"0", "[0] 0"}, {"399", "[399] 0"}, {"^0", "[] 0"}, {"^1", "[0] 0"}, {"^399", "[398] 0"}, {"^^1", "[] 0"}, {"^^2", "[0] 0"}, {"(0 ^(0 2))", "[0 1] 0"}, {"(^0 0)", "[0] 0"}, {"(0 ^0)", "[0] 0"},
		// The same outer index stands below different depths, and comes only once.
		{"(3 ^(4 ^(5 ^6)))", "[3] 0"}, {"((5 ^3) ^^(2 4))", "[0 2 5] 0"}, {"(^^2 ^1)", "[0] 0"}, {"^(^(2 1) (1 0))", "[0] 0"}, {"((9 8) (7 (8 9)))", "[7 8 9] 0"}, {"^(0 ^(1 ^(2 ^(3 0))))", "[] 0"}, {"^(0 ^(1 ^(3 ^(5 0))))", "[0 1] 0"},
	} {
		x := lamOf(t, c.text)
		expect(t, show(c.text, show(impl.FreeIndices(x)), impl.IsClosedLam(x)), show(c.text, c.want, c.want == "[] 0"))
		expectFree(t, x)
	}
	for _, index := range []int64{0, 1, 2, 199, 200, 201, 397, 398, 399} {
		for _, depth := range []int{0, 1, 2, 199, 200, 201, 397, 398, 399} {
			expectFree(t, below(depth, []impl.Lam{lamVar(index)}))
		}
	}
	closed := map[bool]int{}
	for _, x := range smallLams(7, 3) {
		closed[expectFree(t, x)]++
	}
	forSomeLams(253, 1000, 60, func(_ *rand.Rand, x []impl.Lam) { closed[expectFree(t, x)]++ })
	if closed[true] < 100 || closed[false] < 500 {
		t.Errorf("terms that are closed and others: %v", closed)
	}
	for i, x := range badLams() {
		expect(t, show(i, show(impl.FreeIndices(x)), impl.IsClosedLam(x)), show(i, "[] 1", false))
	}
}

func TestPromise13Shifts(t *testing.T) {
	for _, c := range []struct {
		text     string
		from, by int64
		want     string
	}{
		{"(0 ^(0 2))", 1, 2, "(0 ^(0 4))"}, {"(0 ^(0 2))", 0, 2, "(2 ^(0 4))"}, {"(0 ^(0 2))", 2, 2, "(0 ^(0 2))"}, {"0", 0, 1, "1"}, {"0", 1, 1, "0"}, {"^0", 0, 5, "^0"}, {"^1", 0, 5, "^6"}, {"^1", 1, 5, "^1"}, {"^^(0 (1 2))", 0, 1, "^^(0 (1 3))"},
		{"0", 0, 399, "399"}, {"0", 0, 400, ""}, {"0", 1, 400, "0"}, {"1", 0, 399, ""}, {"^0", 0, 400, "^0"}, {"^1", 0, 398, "^399"}, {"^1", 0, 399, ""}, {"399", 0, 0, "399"}, {"399", 0, 1, ""}, {"399", 399, 1, ""}, {"399", 400, 1, "399"}, {"399", 400, 400, "399"}, {"^399", 398, 1, ""}, {"^399", 399, 400, "^399"}, {"399", 400, 0, "399"}, {"(0 399)", 0, 0, "(0 399)"}, {"(0 399)", 1, 1, ""}, {"(398 0)", 1, 1, "(399 0)"},
	} {
		x := lamOf(t, c.text)
		want := "[] 5"
		if c.want != "" {
			want = show(lamOf(t, c.want), impl.OK)
		}
		expect(t, show(c.text, c.from, c.by, expectShift(t, x, c.from, c.by)), show(c.text, c.from, c.by, want))
	}
	for _, x := range smallLams(6, 3) {
		for _, from := range []int64{0, 1, 2, 3, 400} {
			for _, by := range []int64{0, 1, 2, 397, 398, 399, 400} {
				expectShift(t, x, from, by)
			}
		}
	}
	results := map[string]int{}
	forSomeLams(254, 3000, 60, func(random *rand.Rand, x []impl.Lam) {
		from, by := random.Int63n(3), random.Int63n(3)
		if random.Intn(3) == 0 {
			by = 390 + random.Int63n(11)
		}
		want := expectShift(t, x, from, by)
		results[want[len(want)-1:]]++
	})
	if results["0"] < 1500 || results["5"] < 300 {
		t.Errorf("shifts with the codes 0 and 5: %v", results)
	}
	deepest := below(mostElements-1, []impl.Lam{lamVar(mostIndex)})
	expect(t, expectShift(t, deepest, 0, 1), "[] 5")
	expect(t, expectShift(t, deepest, 1, 400), show(deepest, impl.OK))
	expectShift(t, longLam(398, mostElements), 0, 1)
	expectShift(t, longLam(399, mostElements), 0, 1)
}

func TestPromise13ShiftErrors(t *testing.T) {
	outside := []int64{-1, mostElements + 1, mostElements + 2, 1 << 32, math.MinInt64, math.MaxInt64}
	for i, x := range badLams() {
		for _, from := range append([]int64{0, 400}, outside...) {
			expect(t, show(i, show(impl.ShiftLam(x, from, 1))), show(i, "[] 1"))
			expect(t, show(i, show(impl.ShiftLam(x, 0, from))), show(i, "[] 1"))
		}
	}
	for _, s := range someLamTexts {
		x := lamOf(t, s)
		for _, bad := range outside {
			for _, good := range []int64{0, 1, 400} {
				expect(t, show(s, bad, show(impl.ShiftLam(x, bad, good))), show(s, bad, "[] 2"))
				expect(t, show(s, bad, show(impl.ShiftLam(x, good, bad))), show(s, bad, "[] 2"))
			}
			expect(t, show(s, bad, show(impl.ShiftLam(x, bad, bad))), show(s, bad, "[] 2"))
		}
	}
}

func TestPromise13Substitutions(t *testing.T) {
	t.Parallel()
	for _, c := range []struct {
		text string
		k    int64
		by   string
		want string
	}{
		{"0", 0, "^0", "^0"}, {"0", 1, "^0", "0"}, {"1", 0, "^0", "1"}, {"(0 ^(0 2))", 1, "0", "(0 ^(0 1))"}, {"(0 ^(0 2))", 0, "7", "(7 ^(0 2))"}, {"^1", 0, "0", "^1"}, {"^1", 0, "3", "^4"}, {"^^2", 0, "(3 ^(0 4))", "^^(5 ^(0 6))"}, {"^0", 0, "5", "^0"},
		{"(0 (1 2))", 1, "(0 (1 2))", "(0 ((0 (1 2)) 2))"}, {"^(1 ^(2 ^3))", 0, "(0 ^0)", "^((1 ^0) ^((2 ^0) ^(3 ^0)))"}, {"^^(0 (1 (2 3)))", 0, "0", "^^(0 (1 (2 3)))"}, {"^^(0 (1 (2 3)))", 1, "^(0 1)", "^^(0 (1 (2 ^(0 3))))"}, {"(^1 0)", 0, "(^0 1)", "(^(^0 2) (^0 1))"},
		// The greatest indices: other variables keep theirs, and nothing is shifted that is not put anywhere.
		{"399", 399, "399", "399"}, {"399", 398, "0", "399"}, {"^399", 398, "0", "^1"}, {"^399", 399, "0", "^399"}, {"^1", 0, "398", "^399"}, {"^1", 0, "399", ""}, {"^0", 0, "399", "^0"}, {"^2", 0, "399", "^2"}, {"0", 0, "399", "399"}, {"^^2", 0, "397", "^^399"}, {"^^2", 0, "398", ""}, {"^^2", 0, "^398", "^^^400"}, {"^^2", 0, "^397", "^^^399"}, {"(0 ^1)", 0, "399", ""}, {"(0 ^0)", 0, "399", "(399 ^0)"},
	} {
		x, by := lamOf(t, c.text), lamOf(t, c.by)
		want := "[] 5"
		if result, ok := impl.ReadLam(c.want); ok {
			want = show(result, impl.OK)
		}
		expect(t, show(c.text, c.k, c.by, expectSubstitution(t, x, c.k, by)), show(c.text, c.k, c.by, want))
	}
	small := smallLams(5, 3)
	for _, x := range small {
		for _, by := range smallLams(3, 2) {
			for k := range int64(3) {
				expectSubstitution(t, x, k, by)
			}
		}
	}
	results := map[string]int{}
	forSomeLams(255, 3000, 60, func(random *rand.Rand, x []impl.Lam) {
		want := expectSubstitution(t, x, random.Int63n(4), someLam(random, 1+random.Intn(200), 0))
		results[want[len(want)-1:]]++
	})
	if results["0"] < 1500 || results["5"] < 200 {
		t.Errorf("substitutions with the codes 0 and 5: %v", results)
	}
}

// A substitution makes a term as long as it can be, or longer by one.
func TestPromise13LongSubstitutions(t *testing.T) {
	pair, inside, alone := lamOf(t, "(0 0)"), lamOf(t, "^(1 1)"), lamOf(t, "^1")
	for _, c := range []struct {
		x        []impl.Lam
		elements int
		fits     bool
	}{
		{pair, 199, true}, {pair, 200, false}, {inside, 199, true}, {inside, 200, false}, {alone, 399, true}, {alone, 400, false}, {pair[1:2], 400, true}, {longLam(0, 399), 1, true}, {longLam(0, 399), 2, false}, {longLam(0, 399), 400, false}, {longLam(1, 400), 1, true}, {longLam(1, 400), 400, false}, {longLam(1, 399), 400, true}, {longLam(0, 400), 400, true},
		{longLam(0, 199), 3, true}, {longLam(0, 201), 3, false}, {longLam(1, 200), 3, true}, {longLam(1, 202), 3, false},
	} {
		by := longLam(5, c.elements)
		want := expectSubstitution(t, c.x, 0, by)
		expect(t, show(len(c.x), c.elements, strings.HasSuffix(want, " 0")), show(len(c.x), c.elements, c.fits))
		if len(c.x) <= mostElements-2 {
			expectSubstitution(t, appliedTo(c.x, []impl.Lam{lamVar(7)}), 0, by)
			expectSubstitution(t, appliedTo([]impl.Lam{lamVar(7)}, c.x), 0, by)
		}
	}
}

func TestPromise13SubstitutionErrors(t *testing.T) {
	zero := []impl.Lam{lamVar(0)}
	outside := []int64{-1, mostIndex + 1, mostIndex + 2, 1 << 32, math.MinInt64, math.MaxInt64}
	for i, bad := range badLams() {
		for _, k := range append([]int64{0, 399}, outside...) {
			expect(t, show(i, show(impl.SubstituteLam(bad, k, zero))), show(i, "[] 1"))
			expect(t, show(i, show(impl.SubstituteLam(zero, k, bad))), show(i, "[] 1"))
			expect(t, show(i, show(impl.SubstituteLam(below(1, zero), k, bad))), show(i, "[] 1"))
			expect(t, show(i, show(impl.SubstituteLam(bad, k, bad))), show(i, "[] 1"))
		}
	}
	for _, s := range someLamTexts {
		x := lamOf(t, s)
		for _, k := range outside {
			expect(t, show(s, k, show(impl.SubstituteLam(x, k, zero))), show(s, k, "[] 2"))
			expect(t, show(s, k, show(impl.SubstituteLam(longLam(0, 399), k, longLam(0, 400)))), show(s, k, "[] 2"))
		}
		expectSubstitution(t, x, 399, zero)
		expectSubstitution(t, x, 0, x)
	}
}
