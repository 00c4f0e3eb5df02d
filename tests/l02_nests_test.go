package tests

import (
	"slices"
	"testing"

	"loop.example/g01366/impl"
)

func TestExampleOfNests(t *testing.T) {
	is(t, "a side is not less", "false 0", pack2(impl.FitsInside(impl.Box{A: 3, B: 1, C: 1}, brick))...)
	is(t, "nor here", "false 0", pack2(impl.FitsInside(impl.Box{A: 1, B: 1, C: 1}, brick))...)
	list := readBoxes(t, "2x2x2 4x4x4 3x3x3 5x1x9")
	is(t, "nest", "[0 2 1] 0", pack2(impl.LongestNest(list))...)
	is(t, "apart", "[0 3] 0", pack2(impl.LargestApart(list))...)
	is(t, "piles", "[0 0 0 1] 2 0", pack3(impl.FewestPiles(list))...)
}

func TestFitsInsideAgainstAll(t *testing.T) {
	smallBoxes(4, func(a impl.Box) {
		smallBoxes(4, func(b impl.Box) {
			is(t, show("inside", a, b), show(inside(a, b), impl.OK), pack2(impl.FitsInside(a, b))...)
		})
	})
	for _, c := range []struct{ a, b, want string }{
		{"59x59x59", "60x60x60", "true 0"},
		{"60x60x60", "60x60x60", "false 0"},
		{"1x59x2", "60x3x2", "true 0"},
		{"2x1x59", "60x3x2", "true 0"},
		{"2x2x59", "60x3x2", "false 0"},
		{"1x1x60", "60x60x60", "false 0"},
	} {
		is(t, c.a+" in "+c.b, c.want, pack2(impl.FitsInside(readBoxes(t, c.a)[0], readBoxes(t, c.b)[0]))...)
	}
}

// P8: nests and boxes that are apart are the first ones of the most, and there are as many piles as boxes that are apart.
func TestNestsAgainstAll(t *testing.T) {
	for _, most := range []int{3, 5, 8, 20} {
		randomBoxes(40, 6, most, func(list []impl.Box) {
			is(t, show("nest", list), show(nestByTrying(list), impl.OK), pack2(impl.LongestNest(list))...)
			apart := apartByTrying(list)
			is(t, show("apart", list), show(apart, impl.OK), pack2(impl.LargestApart(list))...)
		})
		randomBoxes(40, 5, most, func(list []impl.Box) {
			piles, count := fewestByTrying(len(list), func(piles []int64) bool { return arePiles(list, piles) })
			is(t, show("piles", list), show(piles, count, impl.OK), pack3(impl.FewestPiles(list))...)
		})
	}
}

// P8: nests, boxes that are apart and piles of long lists are right, and there are as many piles as boxes that are apart.
func TestNestsOfLongLists(t *testing.T) {
	for _, most := range []int{4, 6, 9, 15, 30, 60} {
		randomBoxes(300, impl.MaxBoxes, most, func(list []impl.Box) {
			nest, one := impl.LongestNest(list)
			apart, two := impl.LargestApart(list)
			piles, count, three := impl.FewestPiles(list)
			n, ok := numbered(piles)
			right, four := impl.CheckPiles(list, piles)
			is(t, show("codes", list), "0 0 0 0", one, two, three, four)
			is(t, show("right", list), "true true true true true", isNest(list, nest), areApart(list, apart), arePiles(list, piles), ok, right)
			is(t, show("as many", list), show(len(apart), len(apart), len(list)), count, n, len(piles))
			is(t, show("apart", list), show(apartByTrying(list)), apart)
			is(t, show("ascending", list), "true", slices.IsSorted(apart))
		})
	}
}

func TestNestsAtTheEdges(t *testing.T) {
	ten := "1x1x1 2x2x2 3x3x3 4x4x4 5x5x5 6x6x6 7x7x7 8x8x8 9x9x9 10x10x10"
	back := "10x10x10 9x9x9 8x8x8 7x7x7 6x6x6 5x5x5 4x4x4 3x3x3 2x2x2 1x1x1"
	same := "4x2x1 4x2x1 4x2x1 4x2x1 4x2x1 4x2x1 4x2x1 4x2x1 4x2x1 4x2x1"
	for _, c := range []struct{ text, nest, apart, piles string }{
		{"", "[] 0", "[] 0", "[] 0 0"},
		{"60x60x60", "[0] 0", "[0] 0", "[0] 1 0"},
		{ten, "[0 1 2 3 4 5 6 7 8 9] 0", "[0] 0", "[0 0 0 0 0 0 0 0 0 0] 1 0"},
		{back, "[9 8 7 6 5 4 3 2 1 0] 0", "[0] 0", "[0 0 0 0 0 0 0 0 0 0] 1 0"},
		{same, "[0] 0", "[0 1 2 3 4 5 6 7 8 9] 0", "[0 1 2 3 4 5 6 7 8 9] 10 0"},
		{"4x2x1 1x4x2 2x1x4", "[0] 0", "[0 1 2] 0", "[0 1 2] 3 0"},
		{"3x5x2 1x2x4 6x3x4", "[1 0 2] 0", "[0] 0", "[0 0 0] 1 0"},
		{"2x2x2 1x1x1 3x3x3 1x1x1 3x3x3", "[1 0 2] 0", "[1 3] 0", "[0 0 0 1 1] 2 0"},
		{"5x5x5 1x1x1 2x2x2 1x9x9 3x3x3", "[1 2 4 0] 0", "[0 3] 0", "[0 0 0 1 0] 2 0"},
		{"2x2x2 2x2x2 1x1x1 1x1x1", "[2 0] 0", "[0 1] 0", "[0 1 0 1] 2 0"},
	} {
		list := readBoxes(t, c.text)
		is(t, "nest of "+c.text, c.nest, pack2(impl.LongestNest(list))...)
		is(t, "apart of "+c.text, c.apart, pack2(impl.LargestApart(list))...)
		is(t, "piles of "+c.text, c.piles, pack3(impl.FewestPiles(list))...)
	}
}

func TestCheckPilesAgainstAll(t *testing.T) {
	randomBoxes(60, 4, 4, func(list []impl.Box) {
		allLists(len(list), 3, func(piles []int64) {
			is(t, show("check", list, piles), show(arePiles(list, piles), impl.OK), pack2(impl.CheckPiles(list, piles))...)
		})
	})
}

func TestCheckPilesAtTheEdges(t *testing.T) {
	for _, c := range []struct {
		text  string
		piles []int64
		want  string
	}{
		{"", nil, "true 0"},
		{"", []int64{}, "true 0"},
		{"", []int64{0}, "false 0"},
		{"1x1x1", nil, "false 0"},
		{"1x1x1", []int64{0}, "true 0"},
		{"1x1x1", []int64{9}, "true 0"},
		{"1x1x1", []int64{10}, "false 0"},
		{"1x1x1", []int64{-1}, "false 0"},
		{"1x1x1", []int64{leastInt}, "false 0"},
		{"1x1x1", []int64{mostInt}, "false 0"},
		{"1x1x1", []int64{1 << 32}, "false 0"},
		{"1x1x1", []int64{0, 0}, "false 0"},
		{"1x1x1", make([]int64, 1000000), "false 0"},
		{"1x1x1 1x1x1", []int64{0, 0}, "false 0"},
		{"1x1x1 1x1x1", []int64{7, 3}, "true 0"},
		{"1x1x1 2x2x2", []int64{5, 5}, "true 0"},
		{"2x2x2 1x1x1", []int64{5, 5}, "true 0"},
		{"1x1x1 2x2x2 3x3x3", []int64{0, 0, 0}, "true 0"},
		{"1x1x1 2x2x2 1x1x1", []int64{0, 0, 0}, "false 0"},
		{"1x1x1 2x2x2 1x1x1", []int64{2, 0, 2}, "false 0"},
		{"1x1x1 2x2x2 1x1x1", []int64{1, 0, 0}, "true 0"},
		{"1x1x1 2x2x2 1x1x1", []int64{1, 0, 10}, "false 0"},
	} {
		is(t, show("check", c.text, c.piles[:min(9, len(c.piles))]), c.want, pack2(impl.CheckPiles(readBoxes(t, c.text), c.piles))...)
	}
}

// Boxes that are not valid, or too many, are found before all else; all other results are then zero.
func TestErrorsOfNests(t *testing.T) {
	for _, b := range invalidBoxes {
		is(t, "invalid: inner", "false 1", pack2(impl.FitsInside(b, brick))...)
		is(t, "invalid: outer", "false 1", pack2(impl.FitsInside(brick, b))...)
	}
	for _, list := range invalidLists() {
		is(t, "invalid: nest", "[] 1", pack2(impl.LongestNest(list))...)
		is(t, "invalid: apart", "[] 1", pack2(impl.LargestApart(list))...)
		is(t, "invalid: piles", "[] 0 1", pack3(impl.FewestPiles(list))...)
		for _, piles := range [][]int64{nil, {0}, {-1}, {0, 1}, {0, 1, 2, 3, 4, 5, 6, 7, 8, 9, 10}} {
			is(t, "invalid: check", "false 1", pack2(impl.CheckPiles(list, piles))...)
		}
	}
}
