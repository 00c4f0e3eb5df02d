package tests

import (
	"slices"
	"strings"
	"testing"

	"loop.example/g01366/impl"
)

// invalidBags are lists that are no bags.
func invalidBags() [][][]int64 {
	return [][][]int64{
		nil, {}, {{}, {}, {}, {}, {}}, {{1}}, {{-1}}, {{0}, {2}}, {{0, 2}, {1}}, {{2, 0}, {1}}, {{0}, {-1}}, {{0}, {mostInt}}, {{leastInt}, {1}}, {{1 << 32}}, {{0}, {0, 1, -1}},
		{{}, {}, {}, {4}}, {{0, 0, 0, 0, 0, 0, 0}}, {{}, {0, 0, 0, 0, 0, 0, 0}}, {{0, 0, 0, 0, 0, 0, 0}, {2}}, {make([]int64, 1000000)}, make([][]int64, 999999),
	}
}

func TestValidBags(t *testing.T) {
	for _, bags := range [][][]int64{
		{nil}, {{}}, {{0}}, {{0, 0, 0, 0, 0, 0}}, {nil, nil, nil, nil}, {{3, 2, 1, 0}, {}, nil, {3, 3, 3, 3, 3, 3}}, {{1}, {0}}, {{1, 1, 1, 1, 1, 1}, {0, 0, 0, 0, 0, 0}},
	} {
		if !impl.ValidBags(bags) {
			t.Errorf("bags %v are not valid", bags)
		}
	}
	for i, bags := range invalidBags() {
		if impl.ValidBags(bags) {
			t.Errorf("the invalid bags %d are valid", i)
		}
	}
}

func TestExampleOfBags(t *testing.T) {
	bags := readBags(t, "01/0/")
	is(t, "wrong", "2 0", pack2(impl.WrongIn(bags))...)
	is(t, "bound", "2 0", pack2(impl.ShiftsBound(bags))...)
	shifts, _, code := impl.FewestShifts(bags, impl.MaxLooks)
	is(t, "fewest", "[{0 2} {1 0} {2 1}] 0", shifts, code)
}

func TestWrongAndBoundAgainstAll(t *testing.T) {
	check := func(bags [][]int64) {
		wrong := wrongByTrying(bags)
		is(t, show("wrong", bags), show(wrong, impl.OK), pack2(impl.WrongIn(bags))...)
		is(t, show("sorted", bags), show(wrong == 0, impl.OK), pack2(impl.IsSorted(bags))...)
		is(t, show("bound", bags), show(boundByTrying(bags), impl.OK), pack2(impl.ShiftsBound(bags))...)
	}
	for count := 1; count <= 4; count++ {
		smallBags(count, 4, 5, check)
	}
	randomBags(500, impl.MaxHigh, check)
}

func TestWrongAndBoundAtTheEdges(t *testing.T) {
	for _, c := range []struct{ text, wrong, sorted, bound string }{
		{"", "0 0", "true 0", "0 0"},
		{"000000", "0 0", "true 0", "0 0"},
		{"///", "0 0", "true 0", "0 0"},
		{"000000/111111/222222/333333", "0 0", "true 0", "0 0"},
		{"111111/000000", "12 0", "false 0", "12 0"},
		{"1/", "1 0", "false 0", "1 0"},
		{"01/", "1 0", "false 0", "1 0"},
		{"10/", "1 0", "false 0", "3 0"},
		{"1000/", "1 0", "false 0", "7 0"},
		{"0100/", "1 0", "false 0", "5 0"},
		{"10101/", "3 0", "false 0", "7 0"},
		{"/011111", "1 0", "false 0", "11 0"},
		{"/1/1/", "1 0", "false 0", "1 0"},
		{"3/1/2/0", "2 0", "false 0", "2 0"},
	} {
		bags := readBags(t, c.text)
		is(t, "wrong in "+c.text, c.wrong, pack2(impl.WrongIn(bags))...)
		is(t, "sorted "+c.text, c.sorted, pack2(impl.IsSorted(bags))...)
		is(t, "bound of "+c.text, c.bound, pack2(impl.ShiftsBound(bags))...)
	}
}

// manyShifts returns all shifts of bags from -2 to 5, and some of bags that are far away.
func manyShifts() []impl.Shift {
	list := []impl.Shift{{From: -128, To: 0}, {From: 0, To: -128}, {From: 127, To: 0}, {From: 0, To: 127}, {From: -128, To: 127}, {From: 127, To: 127}, {From: -128, To: -128}}
	for from := int8(-2); from <= 5; from++ {
		for to := int8(-2); to <= 5; to++ {
			list = append(list, impl.Shift{From: from, To: to})
		}
	}
	return list
}

func TestShiftBagAgainstAll(t *testing.T) {
	randomBags(300, impl.MaxHigh, func(bags [][]int64) {
		for _, s := range manyShifts() {
			next, code := shiftByTrying(bags, s)
			is(t, show("shift", bags, s), show(next, code), pack2(impl.ShiftBag(bags, s))...)
		}
	})
}

func TestShiftBagAtTheEdges(t *testing.T) {
	for _, c := range []struct {
		text string
		s    impl.Shift
		want string
	}{
		{"", impl.Shift{From: 0, To: 0}, "[] 2"}, {"0", impl.Shift{From: 0, To: 1}, "[] 2"}, {"0", impl.Shift{From: 1, To: 0}, "[] 2"}, {"0/", impl.Shift{From: 0, To: 0}, "[] 2"}, {"0/", impl.Shift{From: 1, To: 1}, "[] 2"},
		{"0/", impl.Shift{From: 0, To: 1}, "[[] [0]] 0"}, {"0/", impl.Shift{From: 1, To: 0}, "[] 6"}, {"0/", impl.Shift{From: 0, To: 2}, "[] 2"}, {"0/", impl.Shift{From: -1, To: 1}, "[] 2"},
		{"000000/1", impl.Shift{From: 1, To: 0}, "[] 3"}, {"000000/", impl.Shift{From: 1, To: 0}, "[] 6"}, {"000000/1", impl.Shift{From: 0, To: 1}, "[[0 0 0 0 0] [1 0]] 0"},
		{"00000/1", impl.Shift{From: 1, To: 0}, "[[0 0 0 0 0 1] []] 0"}, {"000000/111111", impl.Shift{From: 1, To: 0}, "[] 3"}, {"012/1/3/0", impl.Shift{From: 0, To: 3}, "[[0 1] [1] [3] [0 2]] 0"},
	} {
		is(t, show("shift", c.text, c.s), c.want, pack2(impl.ShiftBag(readBags(t, c.text), c.s))...)
	}
}

func TestShiftAllAgainstAll(t *testing.T) {
	randomBags(400, 4, func(bags [][]int64) {
		list := manyShifts()
		if len(bags) > 1 {
			list = allShifts(len(bags))
		}
		// Shifts that are far from each other in their order, as many as can be made, and one more.
		var made []impl.Shift
		now, code := bags, int64(impl.OK)
		for i := 0; code == impl.OK && len(made) < 12; i++ {
			s := list[(i*5+len(bags[0]))%len(list)]
			made = append(made, s)
			if now, code = shiftByTrying(now, s); code == impl.OK {
				is(t, show("shifts", bags, made), show(now, code), pack2(impl.ShiftAll(bags, made))...)
			}
		}
		is(t, show("shifts", bags, made), show(now, code), pack2(impl.ShiftAll(bags, made))...)
	})
}

func TestShiftAllAtTheEdges(t *testing.T) {
	there, back := impl.Shift{From: 0, To: 1}, impl.Shift{From: 1, To: 0}
	same, far := impl.Shift{From: 1, To: 1}, impl.Shift{From: 0, To: 2}
	hundred := slices.Repeat([]impl.Shift{there, back}, 50)
	for _, c := range []struct {
		text string
		list []impl.Shift
		want string
	}{
		{"", nil, "[[]] 0"}, {"01/0/", nil, "[[0 1] [0] []] 0"}, {"01/0/", []impl.Shift{}, "[[0 1] [0] []] 0"},
		{"01/", []impl.Shift{there}, "[[0] [1]] 0"}, {"01/", []impl.Shift{there, there}, "[[] [1 0]] 0"}, {"01/", []impl.Shift{there, there, there}, "[] 6"},
		{"01/", hundred, "[[0 1] []] 0"}, {"01/", append(slices.Clone(hundred), there), "[] 3"}, {"01/", append(slices.Clone(hundred), same), "[] 3"}, {"01/", slices.Repeat([]impl.Shift{same}, 101), "[] 3"},
		{"01/", slices.Repeat([]impl.Shift{same}, 100), "[] 2"}, {"01/", make([]impl.Shift, 999999), "[] 3"},
		// The first shift that has an error tells it, also if one behind it has one that would be checked before.
		{"01/", []impl.Shift{back, same}, "[] 6"}, {"01/", []impl.Shift{there, far, back, back, back}, "[] 2"}, {"000000/0", []impl.Shift{back, same, back}, "[] 3"}, {"000000/0", []impl.Shift{there, back, back, same}, "[] 3"},
		{"000000/0", []impl.Shift{there, back}, "[[0 0 0 0 0 0] [0]] 0"},
	} {
		is(t, show("shifts", c.text, len(c.list)), c.want, pack2(impl.ShiftAll(readBags(t, c.text), c.list))...)
	}
}

// checkFewest checks shifts with what trying all lists has found, and the budgets around the looks.
func checkFewest(t *testing.T, bags [][]int64, best []impl.Shift, looks int64) {
	t.Helper()
	is(t, show("fewest", bags), show(best, looks, impl.OK), pack3(impl.FewestShifts(bags, impl.MaxLooks))...)
	is(t, show("enough looks", bags), show(best, looks, impl.OK), pack3(impl.FewestShifts(bags, looks))...)
	is(t, show("a look too many", bags), "[] 0 7", pack3(impl.FewestShifts(bags, looks-1))...)
	if bound, _ := impl.ShiftsBound(bags); int64(len(best)) < bound {
		t.Errorf("%v are sorted by %d shifts, which is less than %d", bags, len(best), bound)
	}
	behind, code := impl.ShiftAll(bags, best)
	is(t, show("sorted", bags), "0 0", wrongByTrying(behind), code)
}

// checkNone checks that there are no shifts, and how many bags have to be looked at for this.
func checkNone(t *testing.T, bags [][]int64, looks int64) {
	t.Helper()
	is(t, show("none", bags), "[] 0 6", pack3(impl.FewestShifts(bags, impl.MaxLooks))...)
	is(t, show("enough looks for none", bags), "[] 0 6", pack3(impl.FewestShifts(bags, looks))...)
	is(t, show("a look too many for none", bags), "[] 0 7", pack3(impl.FewestShifts(bags, looks-1))...)
}

// P12: shifts that are found sort bags, and no fewer do, nor as few that come before them.
func TestFewestShiftsAgainstAll(t *testing.T) {
	for _, c := range []struct{ count, high, all, most int }{{1, 6, 6, 2}, {2, 4, 4, 8}, {3, 2, 3, 5}, {4, 2, 2, 4}} {
		tried, settled := 0, 0
		smallBags(c.count, c.high, c.all, func(bags [][]int64) {
			tried++
			if best, looks, ok := sortByTrying(bags, c.most); ok {
				settled++
				checkFewest(t, bags, best, looks)
			} else if depth, came := levelsByTrying(bags); depth < 0 {
				settled++
				checkNone(t, bags, came)
			}
		})
		if settled*10 < tried*9 {
			t.Errorf("of %d lists of %d bags only %d have been settled", tried, c.count, settled)
		}
	}
}

// levelsByTrying goes on from bags to all that come up, until some are sorted or all have come up, and returns how many shifts that takes, or -1, and how many bags have come up.
func levelsByTrying(bags [][]int64) (int, int64) {
	came := map[string]bool{bagsOf(bags): true}
	for depth, level := 0, [][][]int64{bags}; len(level) > 0; depth++ {
		if slices.ContainsFunc(level, func(b [][]int64) bool { return wrongByTrying(b) == 0 }) {
			return depth, int64(len(came))
		}
		var next [][][]int64
		for _, before := range level {
			for _, s := range allShifts(len(bags)) {
				if behind, code := shiftByTrying(before, s); code == impl.OK && !came[bagsOf(behind)] {
					came[bagsOf(behind)] = true
					next = append(next, behind)
				}
			}
		}
		level = next
	}
	return -1, int64(len(came))
}

// P12: also of higher bags, for which not all lists can be tried.
func TestFewestShiftsOfHigherBags(t *testing.T) {
	for _, text := range []string{
		"0101/10", "1100/01", "111/000", "10/01/", "210/21/", "12/20/01", "21/02/10", "012//1", "3/2/1/0", "10/23//", "30/1/2/3", "000000/11/1", "00000/11111/20", "111111/00000", "0/3//2",
	} {
		bags := readBags(t, text)
		depth, came := levelsByTrying(bags)
		if depth < 0 {
			checkNone(t, bags, came)
			continue
		}
		shifts, looks, code := impl.FewestShifts(bags, impl.MaxLooks)
		is(t, "fewest of "+text, show(depth, true, impl.OK), len(shifts), looks <= came, code)
		behind, code := impl.ShiftAll(bags, shifts)
		is(t, "sorted: "+text, "0 0", wrongByTrying(behind), code)
		is(t, "a look too many: "+text, "[] 0 7", pack3(impl.FewestShifts(bags, looks-1))...)
	}
}

func TestFewestShiftsAtTheEdges(t *testing.T) {
	for _, c := range []struct {
		text   string
		budget int64
		want   string
	}{
		{"", 0, "[] 0 7"}, {"", 1, "[] 1 0"}, {"000000", 20000, "[] 1 0"}, {"000000", 0, "[] 0 7"}, {"///", 1, "[] 1 0"}, {"000000/111111/222222/333333", 1, "[] 1 0"},
		{"1/", 1, "[] 0 7"}, {"1/", 2, "[{0 1}] 2 0"}, {"1/", 20000, "[{0 1}] 2 0"}, {"/0", 2, "[{1 0}] 2 0"},
		// Seven parcels of one bag lie in two bags in six ways, and in one bag never.
		{"000000/0", 6, "[] 0 6"}, {"000000/0", 20000, "[] 0 6"}, {"000000/0", 5, "[] 0 7"}, {"000000/0", 0, "[] 0 7"},
		// No shift can be made at all, or only those back and forth.
		{"111111/000000", 1, "[] 0 6"}, {"111111/000000", 0, "[] 0 7"}, {"111111/000000/333333/222222", 20000, "[] 0 6"}, {"111111/00000", 20000, "[] 0 6"}, {"10/", 20000, "[] 0 6"},
		{"10//", 20000, "[{0 2} {0 1} {2 0}] 10 0"}, {"01/", 20000, "[{0 1}] 2 0"},
		{"3210/0123/123/210", 20000, "[] 0 7"},
	} {
		is(t, show("fewest", c.text, c.budget), c.want, pack3(impl.FewestShifts(readBags(t, c.text), c.budget))...)
	}
}

// Bags are checked before numbers; all other results are then zero.
func TestErrorsOfBags(t *testing.T) {
	for i, bags := range invalidBags() {
		is(t, show("invalid: wrong", i), "0 1", pack2(impl.WrongIn(bags))...)
		is(t, show("invalid: sorted", i), "false 1", pack2(impl.IsSorted(bags))...)
		is(t, show("invalid: bound", i), "0 1", pack2(impl.ShiftsBound(bags))...)
		is(t, show("invalid: text", i), "", impl.BagsText(bags))
		for _, s := range manyShifts() {
			is(t, show("invalid: shift", i), "[] 1", pack2(impl.ShiftBag(bags, s))...)
			is(t, show("invalid: shifts", i), "[] 1", pack2(impl.ShiftAll(bags, slices.Repeat([]impl.Shift{s}, 101)))...)
		}
		is(t, show("invalid: no shifts", i), "[] 1", pack2(impl.ShiftAll(bags, nil))...)
		for _, budget := range []int64{leastInt, -1, 0, 1, 20000, 20001, mostInt} {
			is(t, show("invalid: fewest", i), "[] 0 1", pack3(impl.FewestShifts(bags, budget))...)
		}
	}
	for _, text := range []string{"", "01/0/", "000000/0", "111111/000000"} {
		for _, budget := range []int64{leastInt, -1, 20001, 1 << 32, mostInt} {
			is(t, show("budget", text, budget), "[] 0 2", pack3(impl.FewestShifts(readBags(t, text), budget))...)
		}
	}
}

func TestBagsTextIsRead(t *testing.T) {
	for _, text := range []string{"", "/", "//", "///", "0", "000000", "1/", "/1", "01/0/", "3210/0123/123/210", "333333/222222/111111/000000"} {
		is(t, "text", text, impl.BagsText(readBags(t, text)))
	}
	is(t, "bags", "[[0 1] [0] []] 0", pack2(impl.ReadBags("01/0/"))...)
	is(t, "one empty bag", "[[]] 0", pack2(impl.ReadBags(""))...)
	is(t, "text", "01/0/", impl.BagsText([][]int64{{0, 1}, {0}, nil}))
	is(t, "text of an empty bag", "", impl.BagsText([][]int64{{}}))
	randomBags(200, impl.MaxHigh, func(bags [][]int64) {
		is(t, show("read", bags), show(bags, impl.OK), pack2(impl.ReadBags(impl.BagsText(bags)))...)
	})
}

func TestTextsOfNoBags(t *testing.T) {
	texts := []string{
		" ", "1", "2/", "/2", "3//", "4///", "0/2", "////", "0////", "0000000", "/0000000", "0 ", " 0", "0,1/", "0-1/", "-0", "+0", "0\n", "0/\n", "a", "0a", "\x00", "0\x00", "\xff", "0\xff/",
		"0\\1", "0|1", "\u0660", "\uff10/", "0\u00b9/", "9", ":", "/:", "0x0", "01 /0/", strings.Repeat("0", 1000000), strings.Repeat("/", 1000000), strings.Repeat("9", 1000000),
	}
	for _, text := range texts {
		is(t, show("text", text[:min(20, len(text))]), "[] 5", pack2(impl.ReadBags(text))...)
	}
}
