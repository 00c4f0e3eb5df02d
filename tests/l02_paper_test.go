package tests

import (
	"math/rand/v2"
	"slices"
	"testing"

	"loop.example/g01366/impl"
)

func TestExampleOfPaper(t *testing.T) {
	is(t, "paper", "12 3 0", pack3(impl.PaperFor(brick))...)
	is(t, "cut", "8 0", pack2(impl.LeastCut(brick, 6))...)
}

// P6: no piece with less area, or with the same one and less width, wraps the box.
func TestPaperForAgainstAll(t *testing.T) {
	smallBoxes(4, func(b impl.Box) {
		wide, long := paperByTrying(b, 20)
		is(t, show("paper", b), show(wide, long, impl.OK), pack3(impl.PaperFor(b))...)
	})
}

// P6: paper that is told wraps the box, and is no longer enough if it is less wide or less long.
func TestPaperForOfGreatBoxes(t *testing.T) {
	randomBoxes(300, 3, impl.MaxSide, func(list []impl.Box) {
		for _, b := range list {
			wide, long, code := impl.PaperFor(b)
			is(t, show("paper", b), "0 true false false", code, wrapsSome(b, wide, long), wrapsSome(b, wide-1, long), wrapsSome(b, wide, long-1))
			for _, turn := range turnsByTrying(b) {
				w, l := 2*(int64(turn.B)+int64(turn.C))+2, int64(turn.A)+int64(turn.C)
				if area := wide * long; w*l < area || w*l == area && w < wide {
					t.Errorf("%v is told to need %d and %d, but %d and %d are less", b, wide, long, w, l)
				}
			}
		}
	})
	for text, want := range map[string]string{
		"1x1x1": "6 2 0", "60x60x60": "242 120 0", "60x1x1": "124 2 0", "1x60x60": "124 61 0", "60x60x1": "124 61 0", "1x3x2": "10 3 0",
		"1x1x5": "14 2 0", "3x1x1": "10 2 0", "7x7x3": "22 10 0",
	} {
		is(t, "paper of "+text, want, pack3(impl.PaperFor(readBoxes(t, text)[0]))...)
	}
}

func TestFitsPaperAgainstAll(t *testing.T) {
	smallBoxes(4, func(b impl.Box) {
		for wide := int64(1); wide <= 20; wide++ {
			for long := int64(1); long <= 20; long++ {
				is(t, show("fits", b, wide, long), show(wrapsTurned(b, wide, long), impl.OK), pack2(impl.FitsPaper(b, wide, long))...)
			}
		}
	})
}

func TestFitsPaperAtTheEdges(t *testing.T) {
	for _, c := range []struct {
		text       string
		wide, long int64
		want       string
	}{
		{"60x60x60", 242, 120, "true 0"},
		{"60x60x60", 120, 242, "true 0"},
		{"60x60x60", 241, 120, "false 0"},
		{"60x60x60", 119, 242, "false 0"},
		{"60x60x60", 400, 400, "true 0"},
		{"1x1x1", 1, 1, "false 0"},
		{"1x1x1", 400, 1, "false 0"},
		{"1x1x1", 6, 2, "true 0"},
		{"1x1x1", 2, 6, "true 0"},
		{"4x2x1", 6, 8, "true 0"},
		{"4x2x1", 6, 7, "false 0"},
		{"1x4x2", 8, 5, "true 0"},
	} {
		is(t, show("fits", c.text, c.wide, c.long), c.want, pack2(impl.FitsPaper(readBoxes(t, c.text)[0], c.wide, c.long))...)
	}
}

// P6: a cut that is told wraps the box, and a shorter one does not.
func TestLeastCutAgainstAll(t *testing.T) {
	check := func(b impl.Box, wide int64) {
		want := show(0, impl.ErrNotFound)
		if long := cutByTrying(b, wide); long > 0 {
			want = show(long, impl.OK)
		}
		is(t, show("cut", b, wide), want, pack2(impl.LeastCut(b, wide))...)
	}
	smallBoxes(5, func(b impl.Box) {
		for wide := int64(1); wide <= 24; wide++ {
			check(b, wide)
		}
	})
	for _, b := range readBoxes(t, "60x60x60 1x60x60 60x1x1 17x40x23 59x2x31") {
		for wide := int64(1); wide <= impl.MaxRoll; wide += 3 {
			check(b, wide)
		}
	}
}

func TestCutsAndPaperAgree(t *testing.T) {
	randomBoxes(200, 3, impl.MaxSide, func(list []impl.Box) {
		for _, b := range list {
			for _, wide := range []int64{1, 30, 61, 120, 121, 242, 400} {
				long, code := impl.LeastCut(b, wide)
				if code != impl.OK {
					is(t, show("never", b, wide), "false 0", pack2(impl.FitsPaper(b, wide, impl.MaxRoll))...)
					continue
				}
				is(t, show("cut", b, wide), "true 0", pack2(impl.FitsPaper(b, wide, long))...)
				is(t, show("shorter", b, wide), show(false, impl.OK), pack2(impl.FitsPaper(b, wide, long-1))...)
			}
		}
	})
}

func TestCutsFor(t *testing.T) {
	for _, c := range []struct {
		text string
		wide int64
		want string
	}{
		{"", 1, "[] 0"},
		{"", 400, "[] 0"},
		{"4x2x1 1x1x1", 6, "[8 2] 0"},
		{"4x2x1 1x1x1 2x1x4 4x2x1 1x1x1", 6, "[8 2 8 8 2] 0"},
		{"4x2x1 1x1x1", 2, "[] 6"},
		{"1x1x1 4x2x1", 2, "[] 6"},
		{"1x1x1", 2, "[6] 0"},
		{"1x1x1", 1, "[] 6"},
		{"60x60x60", 400, "[120] 0"},
		{"60x60x60", 241, "[242] 0"},
		{"60x60x60 60x60x60", 119, "[] 6"},
	} {
		is(t, show("cuts", c.text, c.wide), c.want, pack2(impl.CutsFor(readBoxes(t, c.text), c.wide))...)
	}
}

func TestCutsForAreThoseOfEachBox(t *testing.T) {
	randomBoxes(300, impl.MaxBoxes, 12, func(list []impl.Box) {
		for _, wide := range []int64{3, 9, 17, 30, 400} {
			cuts, found := []int64{}, true
			for _, b := range list {
				cut, code := impl.LeastCut(b, wide)
				cuts, found = append(cuts, cut), found && code == impl.OK
			}
			want := show(cuts, impl.OK)
			if !found {
				want = show([]int64{}, impl.ErrNotFound)
			}
			is(t, show("cuts", list, wide), want, pack2(impl.CutsFor(list, wide))...)
		}
	})
}

// Boxes are checked before lengths, and these before all else; all other results are then zero.
func TestErrorsOfPaper(t *testing.T) {
	lengths := []int64{leastInt, -1, 0, 401, 1 << 32, mostInt}
	for _, b := range invalidBoxes {
		is(t, "invalid: paper", "0 0 1", pack3(impl.PaperFor(b))...)
		for _, n := range append([]int64{1, 400}, lengths...) {
			is(t, "invalid: fits", "false 1", pack2(impl.FitsPaper(b, n, 5))...)
			is(t, "invalid: fits", "false 1", pack2(impl.FitsPaper(b, 5, n))...)
			is(t, "invalid: cut", "0 1", pack2(impl.LeastCut(b, n))...)
		}
	}
	for _, n := range lengths {
		is(t, "range: wide", "false 2", pack2(impl.FitsPaper(brick, n, 5))...)
		is(t, "range: long", "false 2", pack2(impl.FitsPaper(brick, 400, n))...)
		is(t, "range: cut", "0 2", pack2(impl.LeastCut(brick, n))...)
		is(t, "range: no boxes", "[] 2", pack2(impl.CutsFor(nil, n))...)
		is(t, "range: boxes", "[] 2", pack2(impl.CutsFor([]impl.Box{brick}, n))...)
	}
	for _, list := range invalidLists() {
		for _, n := range []int64{-1, 0, 1, 400, 401} {
			is(t, "invalid: cuts", "[] 1", pack2(impl.CutsFor(list, n))...)
		}
	}
}

func TestFirstRolls(t *testing.T) {
	for _, c := range []struct {
		cuts []int64
		long int64
		want string
	}{
		{nil, 1, "[] 0 0"},
		{[]int64{1}, 1, "[0] 1 0"},
		{[]int64{400}, 400, "[0] 1 0"},
		{[]int64{3, 5, 4, 2}, 7, "[0 1 0 1] 2 0"},
		{[]int64{5, 5, 2, 2, 1}, 7, "[0 1 0 1 2] 3 0"},
		{[]int64{4, 4, 4, 3, 3, 3}, 7, "[0 1 2 0 1 2] 3 0"},
		{[]int64{3, 3, 3, 4, 4, 4}, 7, "[0 0 1 1 2 3] 4 0"},
		{[]int64{1, 1, 1, 1, 1, 1, 1, 1, 1, 1}, 1, "[0 1 2 3 4 5 6 7 8 9] 10 0"},
		{[]int64{40, 40, 40, 40, 40, 40, 40, 40, 40, 40}, 400, "[0 0 0 0 0 0 0 0 0 0] 1 0"},
		{[]int64{6, 7, 1, 5, 2, 1}, 7, "[0 1 0 2 2 3] 4 0"},
	} {
		is(t, show("rolls", c.cuts, c.long), c.want, pack3(impl.FirstRolls(c.cuts, c.long))...)
	}
}

// A cut is on the first roll on which it fits behind those before it.
func TestFirstRollsFitFirst(t *testing.T) {
	randomCuts(500, impl.MaxBoxes, 20, func(cuts []int64, long int64) {
		rolls, count, code := impl.FirstRolls(cuts, long)
		loads := make([]int64, count)
		for i, roll := range rolls {
			first := slices.IndexFunc(loads, func(load int64) bool { return load+cuts[i] <= long })
			is(t, show("roll", cuts, long, i), show(first), roll)
			loads[roll] += cuts[i]
		}
		is(t, show("rolls", cuts, long), show(len(cuts), false, impl.OK), len(rolls), slices.Contains(loads, 0), code)
	})
}

// randomCuts calls visit with so many lists of up to size cuts, always the same ones, and how long their rolls are.
func randomCuts(lists, size int, most int64, visit func(cuts []int64, long int64)) {
	source := rand.New(rand.NewPCG(13, uint64(size)))
	for range lists {
		long := 1 + source.Int64N(most)
		cuts := make([]int64, source.IntN(size+1))
		for i := range cuts {
			cuts[i] = 1 + source.Int64N(long)
		}
		visit(cuts, long)
	}
}

// P7: no fewer rolls hold the cuts, and no list with as few comes before.
func TestFewestRollsAgainstAll(t *testing.T) {
	randomCuts(300, 5, 12, func(cuts []int64, long int64) {
		best, count := fewestByTrying(len(cuts), func(rolls []int64) bool { return holds(cuts, rolls, long) })
		rolls, tries, code := impl.FewestRolls(cuts, long, impl.MaxWraps)
		is(t, show("fewest", cuts, long), show(best, triesFor(cuts, long), impl.OK), rolls, tries, code)
		if _, first, _ := impl.FirstRolls(cuts, long); first < count {
			t.Errorf("for %v and %d first rolls are %d, fewest are %d", cuts, long, first, count)
		}
	})
}

// The budget can be reached exactly; the try behind it is too much.
func TestFewestRollsWithABudget(t *testing.T) {
	randomCuts(400, impl.MaxBoxes, 40, func(cuts []int64, long int64) {
		tries := triesFor(cuts, long)
		rolls, got, code := impl.FewestRolls(cuts, long, tries)
		is(t, show("just", cuts, long), show(tries, impl.OK, true), got, code, holds(cuts, rolls, long))
		if tries > 0 {
			is(t, show("less", cuts, long), "[] 0 7", pack3(impl.FewestRolls(cuts, long, tries-1))...)
			is(t, show("none", cuts, long), "[] 0 7", pack3(impl.FewestRolls(cuts, long, 0))...)
		}
	})
}

func TestFewestRollsAtTheEdges(t *testing.T) {
	for _, c := range []struct {
		cuts         []int64
		long, budget int64
		want         string
	}{
		{nil, 1, 0, "[] 0 0"},
		{[]int64{}, 400, 20000, "[] 0 0"},
		{[]int64{1}, 1, 1, "[0] 1 0"},
		{[]int64{1}, 1, 0, "[] 0 7"},
		{[]int64{4, 4}, 7, 3, "[0 1] 3 0"},
		{[]int64{4, 4}, 7, 2, "[] 0 7"},
		{[]int64{3, 5, 4, 2}, 7, 5, "[0 1 0 1] 5 0"},
		{[]int64{3, 5, 4, 2}, 7, 4, "[] 0 7"},
		{[]int64{2, 2, 3, 3}, 5, 20000, "[0 1 0 1] 8 0"},
		{[]int64{2, 2, 3, 3}, 5, 7, "[] 0 7"},
		{[]int64{3, 3, 3, 4, 4, 4}, 7, 20000, "[0 1 2 0 1 2] 33 0"},
		{[]int64{30, 30, 30, 30, 30, 30, 30, 30, 31, 90}, 90, 4535, "[0 0 0 1 1 1 2 2 3 4] 4535 0"},
		{[]int64{30, 30, 30, 30, 30, 30, 30, 30, 31, 90}, 90, 4534, "[] 0 7"},
		{[]int64{40, 40, 40, 40, 40, 40, 40, 40, 40, 40}, 400, 10, "[0 0 0 0 0 0 0 0 0 0] 10 0"},
		{[]int64{400, 400, 400, 400, 400, 400, 400, 400, 400, 400}, 400, 55, "[0 1 2 3 4 5 6 7 8 9] 55 0"},
		{[]int64{400, 400, 400, 400, 400, 400, 400, 400, 400, 400}, 400, 54, "[] 0 7"},
	} {
		is(t, show("fewest", c.cuts, c.long, c.budget), c.want, pack3(impl.FewestRolls(c.cuts, c.long, c.budget))...)
	}
}

// Limits are checked first, then ranges, then cuts that are too long; all other results are then zero.
func TestErrorsOfRolls(t *testing.T) {
	bad := []int64{leastInt, -1, 0, 401, 1 << 32, mostInt}
	budgets := []int64{leastInt, -1, 20001, 1 << 32, mostInt}
	check := func(name string, code int64, cuts []int64, long int64) {
		t.Helper()
		is(t, name+": first", show([]int64{}, 0, code), pack3(impl.FirstRolls(cuts, long))...)
		is(t, name+": fewest", show([]int64{}, 0, code), pack3(impl.FewestRolls(cuts, long, 0))...)
		is(t, name+": fewest", show([]int64{}, 0, code), pack3(impl.FewestRolls(cuts, long, 20000))...)
	}
	for _, cuts := range [][]int64{make([]int64, 11), slices.Repeat([]int64{1}, 11), slices.Repeat([]int64{401}, 1000000)} {
		check("limit", impl.ErrLimit, cuts, 7)
		for _, n := range bad {
			check("limit", impl.ErrLimit, cuts, n)
		}
		for _, budget := range budgets {
			is(t, "limit: budget", "[] 0 3", pack3(impl.FewestRolls(cuts, 7, budget))...)
		}
	}
	for _, n := range bad {
		check("range: long", impl.ErrRange, nil, n)
		check("range: long", impl.ErrRange, []int64{3, 400}, n)
		check("range: cut", impl.ErrRange, []int64{n}, 7)
		check("range: cut behind", impl.ErrRange, []int64{8, n}, 7)
		check("range: cut ahead", impl.ErrRange, []int64{n, 8}, 7)
	}
	for _, budget := range budgets {
		for _, cuts := range [][]int64{nil, {3}, {8}} {
			is(t, "range: budget", "[] 0 2", pack3(impl.FewestRolls(cuts, 7, budget))...)
		}
	}
	for _, cuts := range [][]int64{{8}, {400}, {3, 8}, {8, 3}, {1, 1, 1, 1, 1, 1, 1, 1, 1, 8}} {
		check("too long", impl.ErrNotFound, cuts, 7)
	}
}
