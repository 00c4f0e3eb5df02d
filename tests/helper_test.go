package tests

import (
	"fmt"
	"slices"
	"strings"
	"testing"
)

const (
	leastInt = -1 << 63
	mostInt  = 1<<63 - 1
)

// show prints results so that nil and empty slices look alike.
func show(list ...any) string {
	return strings.TrimSuffix(fmt.Sprintln(list...), "\n")
}

// is checks that results print as they should.
func is(t *testing.T, name, want string, list ...any) {
	t.Helper()
	if got := show(list...); got != want {
		t.Errorf("%s: got %s, want %s", name, got, want)
	}
}

// roomy returns a slice with the same elements and room behind them, filled by spare elements.
func roomy[E any](list []E, spare E) []E {
	all := slices.Clone(list)
	for range 4 {
		all = append(all, spare)
	}
	return all[:len(list):len(all)]
}

// whole returns a slice with all its room.
func whole[E any](list []E) []E {
	return slices.Clone(list[:cap(list)])
}

// sets calls visit with each strictly increasing list of 1 to size numbers from 1 to most.
func sets(most int64, size int, visit func([]int64)) {
	var grow func([]int64, int64)
	grow = func(list []int64, from int64) {
		if len(list) > 0 {
			visit(slices.Clone(list))
		}
		if len(list) == size {
			return
		}
		for next := from; next <= most; next++ {
			grow(append(slices.Clone(list), next), next+1)
		}
	}
	grow(nil, 1)
}
