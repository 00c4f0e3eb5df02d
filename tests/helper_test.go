package tests

import (
	"fmt"
	"runtime"
	"slices"
	"strings"
	"sync"
	"testing"
	"time"
)

const (
	leastInt = -1 << 63
	mostInt  = 1<<63 - 1
)

// show prints results so that nil and empty slices look alike.
func show(list ...any) string {
	return strings.TrimSuffix(fmt.Sprintln(list...), "\n")
}

// is checks that results print as they should.
func is(t *testing.T, name, want string, list ...any) {
	t.Helper()
	if got := show(list...); got != want {
		t.Errorf("%s: got %s, want %s", name, got, want)
	}
}

// roomy returns a slice with the same elements and room behind them, filled by spare elements.
func roomy[E any](list []E, spare E) []E {
	all := slices.Clone(list)
	for range 4 {
		all = append(all, spare)
	}
	return all[:len(list):len(all)]
}

// whole returns a slice with all its room.
func whole[E any](list []E) []E {
	return slices.Clone(list[:cap(list)])
}

// checkPureCall checks that a call modifies no argument, returns no memory of one, and returns the same again.
func checkPureCall[A any](t *testing.T, name string, call func(A) []any, a A, wholeOf func(A) string) {
	t.Helper()
	before := wholeOf(a)
	first := call(a)
	text := show(first...)
	if wholeOf(a) != before {
		t.Errorf("%s modifies an argument", name)
	}
	spoil(first)
	again := show(call(a)...)
	if wholeOf(a) != before {
		t.Errorf("%s returns memory of an argument", name)
	}
	if again != text {
		t.Errorf("%s returns %s and then %s", name, text, again)
	}
}

// checkAtTheSameTime checks that a call returns the same if others are made at the same time.
func checkAtTheSameTime[A any](t *testing.T, name string, call func(A) []any, a A) {
	t.Helper()
	want := show(call(a)...)
	var group sync.WaitGroup
	for range 8 {
		group.Go(func() {
			if got := show(call(a)...); got != want {
				t.Errorf("%s returns %s and then %s", name, want, got)
			}
		})
	}
	group.Wait()
}

// checkNothingRuns checks that no more goroutines are left than there were before.
func checkNothingRuns(t *testing.T, before int) {
	t.Helper()
	// What has sent its last result may need a moment to be gone.
	for tries := 0; runtime.NumGoroutine() > before; tries++ {
		if tries == 200 {
			t.Fatalf("%d goroutines are left", runtime.NumGoroutine()-before)
		}
		time.Sleep(10 * time.Millisecond)
	}
}

// sets calls visit with each strictly increasing list of 1 to size numbers from 1 to most.
func sets(most int64, size int, visit func([]int64)) {
	var grow func([]int64, int64)
	grow = func(list []int64, from int64) {
		if len(list) > 0 {
			visit(slices.Clone(list))
		}
		if len(list) == size {
			return
		}
		for next := from; next <= most; next++ {
			grow(append(slices.Clone(list), next), next+1)
		}
	}
	grow(nil, 1)
}
