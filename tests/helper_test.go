package tests

import (
	"fmt"
	"strings"
	"testing"
)

// show writes the results of a call in one line; texts are quoted, so that empty ones and blanks are seen.
func show(results ...any) string {
	parts := make([]string, len(results))
	for i, r := range results {
		switch r.(type) {
		case string, []string:
			parts[i] = fmt.Sprintf("%q", r)
		default:
			parts[i] = fmt.Sprintf("%v", r)
		}
	}
	return strings.Join(parts, " ")
}

// expect compares what show has written. Nil and empty lists are equivalent, and look the same.
func expect(t *testing.T, got, want string) {
	t.Helper()
	if got != want {
		t.Errorf("got %s, want %s", got, want)
	}
}

// repeat returns a list in which a number stands many times.
func repeat(n int64, many int) []int64 {
	list := make([]int64, many)
	for i := range list {
		list[i] = n
	}
	return list
}
