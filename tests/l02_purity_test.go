package tests

import (
	"slices"
	"testing"

	"loop.example/g01366/impl"
)

// firstBox returns the first box of a list, or a box that is not valid.
func firstBox(list []impl.Box) impl.Box {
	if len(list) == 0 {
		return impl.Box{}
	}
	return list[0]
}

// lastBox returns the last box of a list, or a box that is not valid.
func lastBox(list []impl.Box) impl.Box {
	if len(list) == 0 {
		return impl.Box{}
	}
	return list[len(list)-1]
}

// boxCalls has each function of the chapter, called with the boxes, the numbers, and the two numbers that are told.
var boxCalls = map[string]func(list []impl.Box, numbers []int64, m, n int64) []any{
	"ValidBox":    func(b []impl.Box, _ []int64, _, _ int64) []any { return []any{impl.ValidBox(firstBox(b))} },
	"SameBox":     func(b []impl.Box, _ []int64, _, _ int64) []any { return []any{impl.SameBox(firstBox(b), lastBox(b))} },
	"SortBox":     func(b []impl.Box, _ []int64, _, _ int64) []any { return pack2(impl.SortBox(firstBox(b))) },
	"TurnsOf":     func(b []impl.Box, _ []int64, _, _ int64) []any { return pack2(impl.TurnsOf(firstBox(b))) },
	"VolumeOf":    func(b []impl.Box, _ []int64, _, _ int64) []any { return pack2(impl.VolumeOf(firstBox(b))) },
	"StringFor":   func(b []impl.Box, _ []int64, m, _ int64) []any { return pack3(impl.StringFor(firstBox(b), m)) },
	"PaperFor":    func(b []impl.Box, _ []int64, _, _ int64) []any { return pack3(impl.PaperFor(firstBox(b))) },
	"FitsPaper":   func(b []impl.Box, _ []int64, m, n int64) []any { return pack2(impl.FitsPaper(firstBox(b), m, n)) },
	"LeastCut":    func(b []impl.Box, _ []int64, m, _ int64) []any { return pack2(impl.LeastCut(firstBox(b), m)) },
	"CutsFor":     func(b []impl.Box, _ []int64, m, _ int64) []any { return pack2(impl.CutsFor(b, m)) },
	"FirstRolls":  func(_ []impl.Box, c []int64, m, _ int64) []any { return pack3(impl.FirstRolls(c, m)) },
	"FewestRolls": func(_ []impl.Box, c []int64, m, n int64) []any { return pack3(impl.FewestRolls(c, m, n)) },
	"FitsInside": func(b []impl.Box, _ []int64, _, _ int64) []any {
		return pack2(impl.FitsInside(firstBox(b), lastBox(b)))
	},
	"LongestNest":  func(b []impl.Box, _ []int64, _, _ int64) []any { return pack2(impl.LongestNest(b)) },
	"LargestApart": func(b []impl.Box, _ []int64, _, _ int64) []any { return pack2(impl.LargestApart(b)) },
	"FewestPiles":  func(b []impl.Box, _ []int64, _, _ int64) []any { return pack3(impl.FewestPiles(b)) },
	"CheckPiles":   func(b []impl.Box, p []int64, _, _ int64) []any { return pack2(impl.CheckPiles(b, p)) },
	"HowMany":      func(b []impl.Box, _ []int64, _, _ int64) []any { return pack3(impl.HowMany(firstBox(b), lastBox(b))) },
	"BoxesText":    func(b []impl.Box, _ []int64, _, _ int64) []any { return []any{impl.BoxesText(b)} },
	"ReadBoxes":    func(b []impl.Box, _ []int64, _, _ int64) []any { return pack2(impl.ReadBoxes(impl.BoxesText(b))) },
}

// argument lists for the calls; each one is used with each other one.
var (
	someBoxes = [][]impl.Box{
		{}, {brick}, {{A: 60, B: 60, C: 60}, brick}, {brick, {A: 61, B: 1, C: 1}}, {{A: -128, B: 127, C: 0}, brick},
		{{A: 2, B: 2, C: 2}, {A: 4, B: 4, C: 4}, {A: 3, B: 3, C: 3}, {A: 5, B: 1, C: 9}}, slices.Repeat([]impl.Box{brick}, 10), slices.Repeat([]impl.Box{brick}, 11),
	}
	someNumbers = [][]int64{{}, {0}, {0, 1}, {3, 5, 4, 2}, {0, 0, 0, 1}, {1, 2, 3, 4, 5, 6, 7, 8, 9, 10}, {-1, 2}, {leastInt, mostInt}, {1, 1, 1, 1, 1, 1, 1, 1, 1, 1, 1}}
	somePairs   = [][2]int64{{7, 20000}, {7, 5}, {7, 1}, {6, 8}, {8, 6}, {400, 0}, {1, 400}, {0, 7}, {10, -1}, {401, 20001}, {leastInt, mostInt}, {mostInt, leastInt}}
)

// P1: every function returns for all arguments, modifies none, not even the room behind it, and returns the same again.
func TestWrappingIsPure(t *testing.T) {
	for name, call := range boxCalls {
		for _, boxes := range someBoxes {
			for _, numbers := range someNumbers {
				for _, pair := range somePairs {
					list, cuts := roomy(boxes, impl.Box{A: 7, B: 7, C: 7}), roomy(numbers, 55)
					checkWrappingPure(t, name, func() []any { return call(list, cuts, pair[0], pair[1]) }, list, cuts)
				}
			}
		}
	}
}

func checkWrappingPure(t *testing.T, name string, call func() []any, list []impl.Box, cuts []int64) {
	t.Helper()
	l, c := whole(list), whole(cuts)
	first := call()
	text := show(first...)
	if !slices.Equal(l, whole(list)) || !slices.Equal(c, whole(cuts)) {
		t.Errorf("%s modifies an argument", name)
	}
	spoil(first)
	again := show(call()...)
	if !slices.Equal(l, whole(list)) || !slices.Equal(c, whole(cuts)) {
		t.Errorf("%s returns memory of an argument", name)
	}
	if again != text {
		t.Errorf("%s returns %s and then %s", name, text, again)
	}
}

// A nil slice and an empty one are equivalent.
func TestNoBoxesAndNilAreTheSame(t *testing.T) {
	for name, call := range boxCalls {
		for _, pair := range somePairs {
			is(t, name, show(call(nil, nil, pair[0], pair[1])...), call([]impl.Box{}, []int64{}, pair[0], pair[1])...)
		}
	}
}
