package tests

import (
	"slices"
	"testing"

	"loop.example/g01366/impl"
)

// roundArgs are arguments of the functions of the chapter.
type roundArgs struct {
	list   []impl.Parcel
	load   []int64
	visit  []int64
	bags   [][]int64
	shifts []impl.Shift
	n      int64
}

// shift returns the first shift, or one that cannot be made.
func (a roundArgs) shift() impl.Shift {
	if len(a.shifts) == 0 {
		return impl.Shift{}
	}
	return a.shifts[0]
}

// roundCalls has each function of the chapter.
var roundCalls = map[string]func(a roundArgs) []any{
	"ValidParcels":  func(a roundArgs) []any { return []any{impl.ValidParcels(a.list)} },
	"StopsOf":       func(a roundArgs) []any { return pack2(impl.StopsOf(a.list)) },
	"WeightAt":      func(a roundArgs) []any { return pack2(impl.WeightAt(a.list, a.n)) },
	"LoadFor":       func(a roundArgs) []any { return pack2(impl.LoadFor(a.list)) },
	"DiggingOf":     func(a roundArgs) []any { return pack2(impl.DiggingOf(a.list, a.load, a.visit)) },
	"WalkOf":        func(a roundArgs) []any { return pack2(impl.WalkOf(a.list, a.visit)) },
	"BestVisit":     func(a roundArgs) []any { return pack3(impl.BestVisit(a.list, a.load, a.n)) },
	"SplitRound":    func(a roundArgs) []any { return pack3(impl.SplitRound(a.list, a.n)) },
	"LeastHeaviest": func(a roundArgs) []any { return pack2(impl.LeastHeaviest(a.list, a.n)) },
	"ParcelsText":   func(a roundArgs) []any { return []any{impl.ParcelsText(a.list)} },
	"ReadParcels":   func(a roundArgs) []any { return pack2(impl.ReadParcels(impl.ParcelsText(a.list))) },
	"ValidBags":     func(a roundArgs) []any { return []any{impl.ValidBags(a.bags)} },
	"WrongIn":       func(a roundArgs) []any { return pack2(impl.WrongIn(a.bags)) },
	"ShiftBag":      func(a roundArgs) []any { return pack2(impl.ShiftBag(a.bags, a.shift())) },
	"ShiftAll":      func(a roundArgs) []any { return pack2(impl.ShiftAll(a.bags, a.shifts)) },
	"IsSorted":      func(a roundArgs) []any { return pack2(impl.IsSorted(a.bags)) },
	"ShiftsBound":   func(a roundArgs) []any { return pack2(impl.ShiftsBound(a.bags)) },
	"FewestShifts":  func(a roundArgs) []any { return pack3(impl.FewestShifts(a.bags, a.n)) },
	"BagsText":      func(a roundArgs) []any { return []any{impl.BagsText(a.bags)} },
	"ReadBags":      func(a roundArgs) []any { return pack2(impl.ReadBags(impl.BagsText(a.bags))) },
}

// roomyBags returns the same bags with room behind all of their slices.
func roomyBags(bags [][]int64) [][]int64 {
	var same [][]int64
	for _, bag := range bags {
		same = append(same, roomy(bag, 66))
	}
	return roomy(same, []int64{55})
}

// wholeBags tells bags with all their room.
func wholeBags(bags [][]int64) string {
	var rows [][]int64
	for _, bag := range whole(bags) {
		rows = append(rows, whole(bag))
	}
	return show(rows)
}

// wholeRound tells arguments with all their room.
func wholeRound(a roundArgs) string {
	return show(whole(a.list), whole(a.load), whole(a.visit), wholeBags(a.bags), whole(a.shifts))
}

// someRounds returns arguments, some of them valid and some not.
func someRounds(t *testing.T) []roundArgs {
	back := []impl.Shift{{From: 0, To: 1}, {From: 1, To: 0}}
	list := readParcels(t, roundText)
	return []roundArgs{
		{},
		{list, []int64{2, 0, 3, 1}, []int64{2, 1, 0}, readBags(t, "01/0/"), []impl.Shift{{From: 0, To: 2}, {From: 1, To: 0}, {From: 2, To: 1}}, 0},
		{list, []int64{0, 1, 2, 3}, []int64{0, 1, 2}, readBags(t, "10/"), back, 0},
		{list, []int64{0, 1, 2}, []int64{0, 1, 2, 3}, readBags(t, "000000/0"), slices.Repeat(back, 50), 0},
		{list, []int64{0, 1, 2, 2}, []int64{0, 0, 2}, readBags(t, "///0"), slices.Repeat(back, 51), 0},
		{list, []int64{leastInt, 0, 1, mostInt}, []int64{leastInt, 0, mostInt}, [][]int64{{0, 1}, {2}}, []impl.Shift{{From: -128, To: 127}}, 0},
		{slices.Repeat(list[:1], 10), []int64{9, 8, 7, 6, 5, 4, 3, 2, 1, 0}, []int64{2}, readBags(t, "01/12/20/0"), []impl.Shift{{From: 3, To: 2}, {From: 3, To: 2}}, 0},
		{slices.Repeat(list[:1], 11), []int64{0}, []int64{2}, slices.Repeat([][]int64{{0}}, 5), nil, 0},
		{[]impl.Parcel{{Stop: -128, Weight: 32767}}, []int64{0}, []int64{-128}, [][]int64{{leastInt}, {mostInt}}, []impl.Shift{{}}, 0},
	}
}

// P1: every function returns for all arguments, modifies none, not even the room behind it, and returns the same again.
func TestRoundsArePure(t *testing.T) {
	for name, call := range roundCalls {
		for _, a := range someRounds(t) {
			for _, n := range []int64{leastInt, -1, 0, 1, 2, 5, 8, 10, 11, 100, 101, 1000, 20001, mostInt} {
				checkPureCall(t, name, call, roundArgs{roomy(a.list, impl.Parcel{Stop: 7, Weight: 7}), roomy(a.load, 44), roomy(a.visit, 33), roomyBags(a.bags), roomy(a.shifts, impl.Shift{From: 7, To: 7}), n}, wholeRound)
			}
		}
	}
}

// No two bags that are returned share memory, not even behind their ends, nor with those that have been given.
func TestBagsAreApart(t *testing.T) {
	given := roomyBags(readBags(t, "012/102/21"))
	before := wholeBags(given)
	for name, tell := range map[string]func() ([][]int64, int64){
		"ReadBags":         func() ([][]int64, int64) { return impl.ReadBags("012/102/21") },
		"ShiftBag":         func() ([][]int64, int64) { return impl.ShiftBag(given, impl.Shift{From: 0, To: 2}) },
		"ShiftAll, none":   func() ([][]int64, int64) { return impl.ShiftAll(given, nil) },
		"ShiftAll, to all": func() ([][]int64, int64) { return impl.ShiftAll(given, allShifts(3)) },
		"ShiftAll, back": func() ([][]int64, int64) {
			return impl.ShiftAll(given, []impl.Shift{{From: 0, To: 1}, {From: 1, To: 0}})
		},
	} {
		for i := range 3 {
			want, _ := tell()
			got, code := tell()
			spoil([]any{got[i]})
			got[i] = want[i]
			is(t, show(name, i), show(want, impl.OK), got, code)
			is(t, show("given to", name), before, wholeBags(given))
		}
	}
}

// A nil slice and an empty one are equivalent.
func TestNoRoundsAndNilAreTheSame(t *testing.T) {
	for name, call := range roundCalls {
		for _, n := range []int64{-1, 0, 1, 2, 100, mostInt} {
			empty := roundArgs{[]impl.Parcel{}, []int64{}, []int64{}, [][]int64{}, []impl.Shift{}, n}
			is(t, name, show(call(roundArgs{n: n})...), call(empty)...)
			is(t, name, show(call(roundArgs{bags: [][]int64{nil, {0}}, n: n})...), call(roundArgs{bags: [][]int64{{}, {0}}, n: n})...)
		}
	}
}
