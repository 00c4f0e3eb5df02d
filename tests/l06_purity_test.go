package tests

import (
	"runtime"
	"slices"
	"testing"

	"loop.example/g01366/impl"
)

// returnArgs are arguments of the functions of the chapter.
type returnArgs struct {
	orders      []impl.Order
	returns     []impl.Return
	list        []impl.Match
	wanted, got []int64
	vouchers    []impl.Voucher
	m, n        int64
}

// returnCalls has each function of the chapter.
var returnCalls = map[string]func(a returnArgs) []any{
	"ValidOrders":   func(a returnArgs) []any { return []any{impl.ValidOrders(a.orders)} },
	"ValidReturns":  func(a returnArgs) []any { return []any{impl.ValidReturns(a.returns)} },
	"MatchReturns":  func(a returnArgs) []any { return pack2(impl.MatchReturns(a.orders, a.returns, a.n)) },
	"LeftOver":      func(a returnArgs) []any { return pack2(impl.LeftOver(a.orders, a.returns, a.n)) },
	"CheckMatches":  func(a returnArgs) []any { return pack2(impl.CheckMatches(a.orders, a.returns, a.n, a.list)) },
	"RefundOf":      func(a returnArgs) []any { return pack2(impl.RefundOf(a.orders, a.returns, a.list)) },
	"BestRefund":    func(a returnArgs) []any { return pack2(impl.BestRefund(a.orders, a.returns, a.n)) },
	"StillWith":     func(a returnArgs) []any { return pack2(impl.StillWith(a.orders, a.returns, a.m, a.n)) },
	"SwapsFor":      func(a returnArgs) []any { return pack2(impl.SwapsFor(a.wanted, a.got)) },
	"ExchangesFor":  func(a returnArgs) []any { return pack2(impl.ExchangesFor(a.wanted, a.got)) },
	"ValidVouchers": func(a returnArgs) []any { return []any{impl.ValidVouchers(a.vouchers)} },
	"PayVouchers":   func(a returnArgs) []any { return pack3(impl.PayVouchers(a.vouchers, a.n, a.m)) },
	"WorthAt":       func(a returnArgs) []any { return pack2(impl.WorthAt(a.vouchers, a.n)) },
	"LostBy":        func(a returnArgs) []any { return pack2(impl.LostBy(a.vouchers, a.n)) },
	"FirstDayShort": func(a returnArgs) []any { return pack2(impl.FirstDayShort(a.vouchers, a.wanted)) },
	"VouchersText":  func(a returnArgs) []any { return []any{impl.VouchersText(a.vouchers)} },
	"ReadVouchers":  func(a returnArgs) []any { return pack2(impl.ReadVouchers(impl.VouchersText(a.vouchers))) },
}

// roomyReturns returns arguments with the same elements and room behind them.
func roomyReturns(a returnArgs) returnArgs {
	a.orders, a.returns = roomy(a.orders, greatestOrder), roomy(a.returns, greatestReturn)
	a.list, a.vouchers = roomy(a.list, impl.Match{Number: 7}), roomy(a.vouchers, impl.Voucher{Amount: 7, Until: 7})
	a.wanted, a.got = roomy(a.wanted, 77), roomy(a.got, 77)
	return a
}

// wholeReturns tells arguments with all their room.
func wholeReturns(a returnArgs) string {
	return show(whole(a.orders), whole(a.returns), whole(a.list), whole(a.wanted), whole(a.got), whole(a.vouchers))
}

// someReturns returns arguments, some of them valid and some not.
func someReturns(t *testing.T) []returnArgs {
	orders, returns := exampleTrade()
	right := triples(0, 0, 3, 0, 1, 1)
	ring, other := []int64{1, 2, 3, 4}, []int64{2, 3, 1, 4}
	all := []returnArgs{
		{}, {orders: orders, returns: returns, list: right, wanted: ring, got: other, vouchers: readVouchers(t, "30@5 20@3")},
		{orders: orders, list: right, wanted: ring, got: ring, vouchers: readVouchers(t, "0@0 0@0")}, {returns: returns, list: right, wanted: []int64{0, 0, 5}, got: other, vouchers: make([]impl.Voucher, 13)},
		{orders: slices.Repeat(orders, 20), returns: slices.Repeat(returns, 40), list: make([]impl.Match, 100), wanted: []int64{0, 1, 2, 3, 4, 5, 6, 7, 8}, got: []int64{8, 7, 6, 5, 4, 3, 2, 1, 0}, vouchers: slices.Repeat([]impl.Voucher{{Amount: 1000000, Until: 1000}}, 12)},
		{orders: slices.Repeat([]impl.Order{greatestOrder}, 40), returns: slices.Repeat([]impl.Return{greatestReturn}, 40), list: make([]impl.Match, 101), wanted: make([]int64, 1000), got: ring, vouchers: readVouchers(t, "1000000@1000")},
		{orders: slices.Repeat(orders, 21), returns: returns, list: triples(-128, -128, -32768), wanted: make([]int64, 1001), got: []int64{leastInt, mostInt}, vouchers: []impl.Voucher{{Amount: -2147483648, Until: -32768}}},
		{orders: orders, returns: slices.Repeat(returns, 41), list: triples(127, 127, 32767), wanted: []int64{leastInt, mostInt}, got: []int64{mostInt, leastInt}, vouchers: []impl.Voucher{{Amount: 2147483647, Until: 32767}}},
		{orders: []impl.Order{{Buyer: -128, Item: -128, Number: -32768, Price: -32768, Day: -32768}}, returns: []impl.Return{{Buyer: -128, Item: -128, Number: -32768, Day: -32768}}, list: right},
		{orders: []impl.Order{{Buyer: 127, Item: 127, Number: 32767, Price: 32767, Day: 32767}}, returns: []impl.Return{{Buyer: 127, Item: 127, Number: 32767, Day: 32767}}, list: right},
		{orders: orders, returns: returns, list: triples(0, 0, -1), wanted: []int64{-1}, got: []int64{-1}, vouchers: readVouchers(t, "5@0 5@1 5@2")}, {orders: orders, returns: returns, list: triples(0, 2, 1), wanted: []int64{15, 0, 0, 0, 31}, got: []int64{101}},
	}
	return all
}

// P1: every function returns for all arguments, modifies none, not even the room behind it, and returns the same again.
func TestReturnsArePure(t *testing.T) {
	for name, call := range returnCalls {
		for _, a := range someReturns(t) {
			a = roomyReturns(a)
			for _, m := range []int64{leastInt, -1, 0, 1, 8, 9, 40, 1000000, 1000001, mostInt} {
				for _, n := range []int64{leastInt, -1, 0, 1, 3, 11, 12, 1000, 1001, mostInt} {
					a.m, a.n = m, n
					checkPureCall(t, name, call, a, wholeReturns)
				}
			}
		}
	}
}

// The rings of one result share no memory, not even the room behind them.
func TestRingsAreApart(t *testing.T) {
	rings, _ := impl.SwapsFor([]int64{0, 1, 2, 3, 4, 5, 6, 7, 8}, []int64{2, 1, 0, 7, 8, 4, 5, 3, 6})
	is(t, "rings", "[[0 2] [3 7] [4 8 6 5]]", rings)
	for i := range rings {
		spoil([]any{rings[i]})
		for k := i + 1; k < len(rings); k++ {
			is(t, show("ring", k), "false", slices.Contains(rings[k], -99))
		}
	}
	for i := range rings {
		is(t, show("ring", i), "-99 -99", slices.Min(rings[i]), slices.Max(rings[i]))
	}
}

// P1: calls at the same time do not disturb each other.
func TestReturnsAtTheSameTime(t *testing.T) {
	for _, a := range someReturns(t)[:5] {
		a.m, a.n = 8, 10
		for name, call := range returnCalls {
			checkAtTheSameTime(t, name, call, a)
		}
	}
}

// P1: what a call starts does not go on behind it.
func TestReturnsLeaveNothingRunning(t *testing.T) {
	before := runtime.NumGoroutine()
	for range 20 {
		for _, a := range someReturns(t) {
			for _, n := range []int64{-1, 0, 3, 10, 1000} {
				a.n = n
				for _, name := range []string{"MatchReturns", "LeftOver", "CheckMatches", "RefundOf", "BestRefund"} {
					returnCalls[name](a)
				}
			}
		}
	}
	checkNothingRuns(t, before)
}

// A nil slice and an empty one are equivalent.
func TestNoReturnsAndNilAreTheSame(t *testing.T) {
	orders, returns := exampleTrade()
	for name, call := range returnCalls {
		for _, n := range []int64{-1, 0, 3, 10, mostInt} {
			empty := returnArgs{[]impl.Order{}, []impl.Return{}, []impl.Match{}, []int64{}, []int64{}, []impl.Voucher{}, n, n}
			is(t, name, show(call(returnArgs{m: n, n: n})...), call(empty)...)
			empty.orders = orders
			is(t, name, show(call(returnArgs{orders: orders, m: n, n: n})...), call(empty)...)
			empty.returns = returns
			is(t, name, show(call(returnArgs{orders: orders, returns: returns, m: n, n: n})...), call(empty)...)
		}
	}
}
