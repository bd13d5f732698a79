package tests

import (
	"cmp"
	"fmt"
	"slices"
	"strings"
	"testing"

	"loop.example/g01079/impl"
)

// show writes the results of a call in one line; texts are quoted, so that empty ones and blanks are seen.
func show(results ...any) string {
	parts := make([]string, len(results))
	for i, r := range results {
		switch r.(type) {
		case string, []string:
			parts[i] = fmt.Sprintf("%q", r)
		default:
			parts[i] = fmt.Sprintf("%v", r)
		}
	}
	return strings.Join(parts, " ")
}

// expect compares what show has written. Nil and empty lists are equivalent, and look the same.
func expect(t *testing.T, got, want string) {
	t.Helper()
	if got != want {
		t.Errorf("got %s, want %s", got, want)
	}
}

// repeat returns a list in which a number stands many times.
func repeat(n int64, many int) []int64 {
	list := make([]int64, many)
	for i := range list {
		list[i] = n
	}
	return list
}

// expectOrder compares each two lists, which stand in ascending order and are all different.
func expectOrder(t *testing.T, ordered [][]int64, compare func(a, b []int64) int64) {
	t.Helper()
	for i, a := range ordered {
		for k, b := range ordered {
			if got, want := compare(a, slices.Clone(b)), int64(cmp.Compare(i, k)); got != want {
				t.Errorf("%v compared with %v: got %d, want %d", a, b, got, want)
			}
		}
	}
}

// mustRead returns what is read from a text, which must be one.
func mustRead[V any](t *testing.T, read func(string) (V, bool), s string) V {
	t.Helper()
	v, ok := read(s)
	if !ok {
		t.Fatalf("%.80q is not read", s)
	}
	return v
}

// plainModel is a model at work in the plainest way. The code of a step tells what is wrong with it.
type plainModel[C any] interface {
	config() C
	step() int64
}

// beforeTrouble makes at most so many steps of a model, until one of them fails. It returns what was there before the last
// step, the number of steps, that one too, and its code.
func beforeTrouble[C any](x plainModel[C], most int64) (before C, made, code int64) {
	for made < most && code == impl.OK {
		before = x.config()
		code = x.step()
		made++
	}
	return before, made, code
}

// calls are the functions for the steps, runs and traces of some model.
type calls[M, C any] struct {
	step  func(M, C) (C, int64)
	run   func(M, C, int64) (C, int64, bool, int64)
	trace func(M, C, int64) ([]C, int64)
}

// expectUntilTrouble compares a run with at most so many steps of a model, until one of them fails. It reports whether that
// is for lack of space.
func (f calls[M, C]) expectUntilTrouble(t *testing.T, m M, x plainModel[C], most int64) bool {
	t.Helper()
	c := x.config()
	before, made, code := beforeTrouble(x, most)
	if made > 1 {
		end, steps, halts, ok := f.run(m, c, made-1)
		expect(t, show(end, steps, halts, ok), show(before, made-1, code == impl.ErrState, impl.OK))
	}
	if code != impl.ErrFull {
		return false
	}
	var none C
	next, ok := f.step(m, before)
	expect(t, show(next, ok), show(none, impl.ErrFull))
	end, steps, halts, ok := f.run(m, c, made)
	expect(t, show(end, steps, halts, ok), show(none, 0, false, impl.ErrFull))
	return true
}

// haltingModel is one that tells whether it halts.
type haltingModel[C any] interface {
	plainModel[C]
	halts() bool
}

// expectRuns compares single steps, runs of each length up to MaxTrace, and what is on their way with a model, until it fails
// for lack of space.
func (f calls[M, C]) expectRuns(t *testing.T, m M, x haltingModel[C]) {
	t.Helper()
	var none C
	c := x.config()
	all := []C{c}
	expect(t, show(f.trace(m, c, 0)), show(all, impl.OK))
	for budget := int64(1); budget <= impl.MaxTrace; budget++ {
		before := x.config()
		code := x.step()
		next, got := f.step(m, before)
		if code == impl.ErrFull {
			expect(t, show(next, got), show(none, impl.ErrFull))
			expect(t, show(f.run(m, c, budget)), show(none, 0, false, impl.ErrFull))
			expect(t, show(f.trace(m, c, budget)), show([]C{}, impl.ErrFull))
			return
		}
		if code == impl.OK {
			expect(t, show(next, got), show(x.config(), impl.OK))
			all = append(all, x.config())
		} else {
			expect(t, show(next, got), show(none, code))
		}
		expect(t, show(f.run(m, c, budget)), show(x.config(), len(all)-1, x.halts(), impl.OK))
		expect(t, show(f.trace(m, c, budget)), show(all, impl.OK))
	}
}

// expectInvalid checks that there are no runs, also if there is something wrong with the number of steps.
func (f calls[M, C]) expectInvalid(t *testing.T, m M, c C) {
	t.Helper()
	var none C
	expect(t, show(f.step(m, c)), show(none, impl.ErrInvalid))
	for _, steps := range []int64{1, 0, -1, impl.MaxTrace + 1, impl.MaxBudget + 1} {
		expect(t, show(f.run(m, c, steps)), show(none, 0, false, impl.ErrInvalid))
		expect(t, show(f.trace(m, c, steps)), show([]C{}, impl.ErrInvalid))
	}
}

// expectSame compares the run of a machine of some model from c with that of a changed one, for which the configurations have
// another form.
func (f calls[M, C]) expectSame(t *testing.T, m, changed M, c C, form func(C) C) {
	t.Helper()
	before, _ := f.trace(m, c, impl.MaxTrace)
	var want []C
	for _, each := range before {
		want = append(want, form(each))
	}
	got, code := f.trace(changed, form(c), impl.MaxTrace)
	expect(t, show(got, code), show(want, impl.OK))
	end, steps, halts, code := f.run(m, c, 150)
	gotEnd, gotSteps, gotHalts, gotCode := f.run(changed, form(c), 150)
	expect(t, show(gotEnd, gotSteps, gotHalts, gotCode), show(form(end), steps, halts, code))
}
