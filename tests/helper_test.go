package tests

import (
	"cmp"
	"fmt"
	"slices"
	"strings"
	"testing"
)

// show writes the results of a call in one line; texts are quoted, so that empty ones and blanks are seen.
func show(results ...any) string {
	parts := make([]string, len(results))
	for i, r := range results {
		switch r.(type) {
		case string, []string:
			parts[i] = fmt.Sprintf("%q", r)
		default:
			parts[i] = fmt.Sprintf("%v", r)
		}
	}
	return strings.Join(parts, " ")
}

// expect compares what show has written. Nil and empty lists are equivalent, and look the same.
func expect(t *testing.T, got, want string) {
	t.Helper()
	if got != want {
		t.Errorf("got %s, want %s", got, want)
	}
}

// repeat returns a list in which a number stands many times.
func repeat(n int64, many int) []int64 {
	list := make([]int64, many)
	for i := range list {
		list[i] = n
	}
	return list
}

// expectOrder compares each two lists, which stand in ascending order and are all different.
func expectOrder(t *testing.T, ordered [][]int64, compare func(a, b []int64) int64) {
	t.Helper()
	for i, a := range ordered {
		for k, b := range ordered {
			if got, want := compare(a, slices.Clone(b)), int64(cmp.Compare(i, k)); got != want {
				t.Errorf("%v compared with %v: got %d, want %d", a, b, got, want)
			}
		}
	}
}

// mustRead returns what is read from a text, which must be one.
func mustRead[V any](t *testing.T, read func(string) (V, bool), s string) V {
	t.Helper()
	v, ok := read(s)
	if !ok {
		t.Fatalf("%.80q is not read", s)
	}
	return v
}

// beforeTrouble makes at most so many steps of a model, until one of them fails. It returns what was there before the last
// step, the number of steps, that one too, and its code.
func beforeTrouble[C any](x interface {
	config() C
	step() int64
}, most int64) (before C, made, code int64) {
	for made < most && code == 0 {
		before = x.config()
		code = x.step()
		made++
	}
	return before, made, code
}
