package tests

import (
	"math/rand/v2"
	"slices"

	"loop.example/g01366/impl"
)

// randomBoxes calls visit with so many lists of up to size boxes, always the same ones, with sides from 1 to most.
func randomBoxes(lists, size, most int, visit func([]impl.Box)) {
	source := rand.New(rand.NewPCG(7, uint64(most)))
	side := func() int8 { return int8(1 + source.IntN(most)) }
	for range lists {
		list := make([]impl.Box, source.IntN(size+1))
		for i := range list {
			list[i] = impl.Box{A: side(), B: side(), C: side()}
		}
		visit(list)
	}
}

// smallBoxes calls visit with each box with sides from 1 to most.
func smallBoxes(most int8, visit func(impl.Box)) {
	for a := int8(1); a <= most; a++ {
		for b := int8(1); b <= most; b++ {
			for c := int8(1); c <= most; c++ {
				visit(impl.Box{A: a, B: b, C: c})
			}
		}
	}
}

// compareBoxes orders boxes by A, B and C.
func compareBoxes(a, b impl.Box) int {
	return slices.Compare([]int8{a.A, a.B, a.C}, []int8{b.A, b.B, b.C})
}

// turnsByTrying returns the turns of a box, from all six orders of its sides.
func turnsByTrying(b impl.Box) []impl.Box {
	list := []impl.Box{
		{A: b.A, B: b.B, C: b.C}, {A: b.A, B: b.C, C: b.B}, {A: b.B, B: b.A, C: b.C},
		{A: b.B, B: b.C, C: b.A}, {A: b.C, B: b.A, C: b.B}, {A: b.C, B: b.B, C: b.A},
	}
	slices.SortFunc(list, compareBoxes)
	return slices.Compact(list)
}

// wraps reports whether a piece of paper wraps a turn as it lies.
func wraps(turn impl.Box, wide, long int64) bool {
	return wide >= 2*(int64(turn.B)+int64(turn.C))+2 && long >= int64(turn.A)+int64(turn.C)
}

// wrapsSome reports whether a piece of paper wraps some turn of a box as it lies.
func wrapsSome(b impl.Box, wide, long int64) bool {
	return slices.ContainsFunc(turnsByTrying(b), func(turn impl.Box) bool { return wraps(turn, wide, long) })
}

// wrapsTurned reports whether a piece of paper wraps some turn of a box as it lies or with its sides exchanged.
func wrapsTurned(b impl.Box, wide, long int64) bool {
	return wrapsSome(b, wide, long) || wrapsSome(b, long, wide)
}

// cutByTrying returns the least length with which paper that is so wide wraps a box, or 0.
func cutByTrying(b impl.Box, wide int64) int64 {
	for long := int64(1); long <= impl.MaxRoll; long++ {
		if wrapsTurned(b, wide, long) {
			return long
		}
	}
	return 0
}

// paperByTrying returns the piece with the least area, and then the least width, from all pieces that are not too great.
func paperByTrying(b impl.Box, most int64) (bestWide, bestLong int64) {
	for wide := int64(1); wide <= most; wide++ {
		for long := int64(1); long <= most; long++ {
			if (bestWide == 0 || wide*long < bestWide*bestLong) && wrapsSome(b, wide, long) {
				bestWide, bestLong = wide, long
			}
		}
	}
	return bestWide, bestLong
}

// inside reports whether some turn of a has each side less than that of some turn of b.
func inside(a, b impl.Box) bool {
	for _, x := range turnsByTrying(a) {
		for _, y := range turnsByTrying(b) {
			if x.A < y.A && x.B < y.B && x.C < y.C {
				return true
			}
		}
	}
	return false
}

// nested reports whether one of two boxes fits inside the other one.
func nested(a, b impl.Box) bool {
	return inside(a, b) || inside(b, a)
}

// nestByTrying returns the longest nest from all lists of different indices, the one that comes first of several ones.
func nestByTrying(list []impl.Box) []int64 {
	var best []int64
	var grow func(indices []int64)
	grow = func(indices []int64) {
		if len(indices) > len(best) && isNest(list, indices) {
			best = slices.Clone(indices)
		}
		for i := range list {
			if !slices.Contains(indices, int64(i)) {
				grow(append(slices.Clone(indices), int64(i)))
			}
		}
	}
	grow(nil)
	return best
}

// isNest reports whether each box, told by its index, fits inside the next one.
func isNest(list []impl.Box, indices []int64) bool {
	for k := 1; k < len(indices); k++ {
		if !inside(list[indices[k-1]], list[indices[k]]) {
			return false
		}
	}
	return true
}

// apartByTrying returns the most boxes that are apart from all sets of boxes, the list that comes first of several ones.
func apartByTrying(list []impl.Box) []int64 {
	var best []int64
	for set := range 1 << len(list) {
		var indices []int64
		for i := range list {
			if set>>i&1 == 1 {
				indices = append(indices, int64(i))
			}
		}
		longer := len(indices) > len(best)
		before := len(indices) == len(best) && slices.Compare(indices, best) < 0
		if (longer || before) && areApart(list, indices) {
			best = indices
		}
	}
	return best
}

// areApart reports whether no box fits inside another one.
func areApart(list []impl.Box, indices []int64) bool {
	for _, i := range indices {
		for _, k := range indices {
			if i != k && inside(list[i], list[k]) {
				return false
			}
		}
	}
	return true
}

// arePiles reports whether of each two boxes with one number one fits inside the other one.
func arePiles(list []impl.Box, piles []int64) bool {
	for i := range list {
		for k := range i {
			if piles[i] == piles[k] && !nested(list[i], list[k]) {
				return false
			}
		}
	}
	return true
}

// allLists calls visit with each list of so many numbers from 0 to most, those that come first as a list first.
func allLists(size int, most int64, visit func([]int64)) {
	list := make([]int64, size)
	var fill func(i int)
	fill = func(i int) {
		if i == size {
			visit(list)
			return
		}
		for n := int64(0); n <= most; n++ {
			list[i] = n
			fill(i + 1)
		}
	}
	fill(0)
}

// numbered returns how many different numbers a list has, and whether they are told by their first ones, from 0 on.
func numbered(list []int64) (int64, bool) {
	next := int64(0)
	for _, n := range list {
		if n > next {
			return 0, false
		}
		next = max(next, n+1)
	}
	return next, true
}

// fewestByTrying returns the list of numbers that is right with the fewest different ones, the first one of several ones.
func fewestByTrying(size int, right func([]int64) bool) (best []int64, count int64) {
	count = int64(size) + 1
	allLists(size, int64(size), func(list []int64) {
		if n, ok := numbered(list); ok && n < count && right(list) {
			best, count = slices.Clone(list), n
		}
	})
	return best, count
}

// holds reports whether no roll has more cuts than it is long.
func holds(cuts, rolls []int64, long int64) bool {
	loads := map[int64]int64{}
	for i, roll := range rolls {
		loads[roll] += cuts[i]
		if loads[roll] > long {
			return false
		}
	}
	return true
}

// triesFor returns how many tries there are until all cuts have rolls.
func triesFor(cuts []int64, long int64) int64 {
	tries := int64(0)
	for count := int64(0); ; count++ {
		loads := make([]int64, count)
		var put func(i int, used int64) bool
		put = func(i int, used int64) bool {
			if i == len(cuts) {
				return true
			}
			for roll := int64(0); roll < min(used+1, count); roll++ {
				if loads[roll]+cuts[i] > long {
					continue
				}
				tries++
				loads[roll] += cuts[i]
				if put(i+1, max(used, roll+1)) {
					return true
				}
				loads[roll] -= cuts[i]
			}
			return false
		}
		if put(0, 0) {
			return tries
		}
	}
}

// manyByTrying returns how many boxes go into a carton, and the first turn with which the most do.
func manyByTrying(b, carton impl.Box) (int64, impl.Box) {
	counts := map[impl.Box]int64{}
	most := int64(0)
	for _, turn := range turnsByTrying(b) {
		n := int64(carton.A) / int64(turn.A) * (int64(carton.B) / int64(turn.B)) * (int64(carton.C) / int64(turn.C))
		counts[turn] = n
		most = max(most, n)
	}
	for _, turn := range turnsByTrying(b) {
		if counts[turn] == most {
			return most, turn
		}
	}
	return 0, impl.Box{}
}
