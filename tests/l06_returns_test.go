package tests

import (
	"math/rand/v2"
	"slices"
	"testing"

	"loop.example/g01366/impl"
)

// exampleTrade returns the orders and the return of the document's example.
func exampleTrade() ([]impl.Order, []impl.Return) {
	return []impl.Order{{Item: 1, Number: 3, Price: 5, Day: 2}, {Item: 1, Number: 2, Price: 8, Day: 4}}, []impl.Return{{Item: 1, Number: 4, Day: 6}}
}

// The least and the greatest order and return.
var (
	leastOrder     = impl.Order{Number: 1}
	greatestOrder  = impl.Order{Buyer: 8, Item: 11, Number: 100, Price: 10000, Day: 1000}
	leastReturn    = impl.Return{Number: 1}
	greatestReturn = impl.Return{Buyer: 8, Item: 11, Number: 100, Day: 1000}
)

// invalidOrders are lists that are no orders.
var invalidOrders = [][]impl.Order{
	{{}}, {{Number: -1}}, {{Number: 101}}, {{Number: -32768}}, {{Number: 32767}},
	{{Number: 1, Buyer: -1}}, {{Number: 1, Buyer: 9}}, {{Number: 1, Buyer: -128}}, {{Number: 1, Buyer: 127}},
	{{Number: 1, Item: -1}}, {{Number: 1, Item: 12}}, {{Number: 1, Item: -128}}, {{Number: 1, Item: 127}},
	{{Number: 1, Price: -1}}, {{Number: 1, Price: 10001}}, {{Number: 1, Price: -32768}}, {{Number: 1, Price: 32767}},
	{{Number: 1, Day: -1}}, {{Number: 1, Day: 1001}}, {{Number: 1, Day: -32768}}, {{Number: 1, Day: 32767}},
	{leastOrder, {}}, {{}, leastOrder}, {leastOrder, greatestOrder, {Number: 1, Price: 10001}, leastOrder},
	slices.Repeat([]impl.Order{leastOrder}, 41), slices.Repeat([]impl.Order{leastOrder}, 1000000),
}

// invalidReturns are lists that are no returns.
var invalidReturns = [][]impl.Return{
	{{}}, {{Number: -1}}, {{Number: 101}}, {{Number: -32768}}, {{Number: 32767}},
	{{Number: 1, Buyer: -1}}, {{Number: 1, Buyer: 9}}, {{Number: 1, Buyer: -128}}, {{Number: 1, Buyer: 127}},
	{{Number: 1, Item: -1}}, {{Number: 1, Item: 12}}, {{Number: 1, Item: -128}}, {{Number: 1, Item: 127}},
	{{Number: 1, Day: -1}}, {{Number: 1, Day: 1001}}, {{Number: 1, Day: -32768}}, {{Number: 1, Day: 32767}},
	{leastReturn, {}}, {{}, leastReturn}, {leastReturn, greatestReturn, {Number: 101}, leastReturn},
	slices.Repeat([]impl.Return{leastReturn}, 41), slices.Repeat([]impl.Return{leastReturn}, 1000000),
}

// triples returns the matches that are told by three numbers each: the index of a return, that of an order, and how many pieces.
func triples(numbers ...int) []impl.Match {
	list := []impl.Match{}
	for match := range slices.Chunk(numbers, 3) {
		list = append(list, impl.Match{Return: int8(match[0]), Order: int8(match[1]), Number: int16(match[2])})
	}
	return list
}

// noDays are numbers that are no day, and no number of days.
var noDays = []int64{leastInt, -1 << 32, -1, 1001, 1 << 16, 1 << 32, mostInt}

func TestLimitsOfReturns(t *testing.T) {
	is(t, "limits", "40 9 12 10000 12 1000", impl.MaxOrders, impl.MaxBuyers, impl.MaxThings, impl.MaxPiece, impl.MaxVouchers, impl.MaxDays)
}

func TestExampleOfReturns(t *testing.T) {
	orders, returns := exampleTrade()
	list, code := impl.MatchReturns(orders, returns, 10)
	is(t, "matches", "[{0 0 3} {0 1 1}] 0", list, code)
	is(t, "refund", "23 0", pack2(impl.RefundOf(orders, returns, list))...)
	is(t, "best", "26 0", pack2(impl.BestRefund(orders, returns, 10))...)
	is(t, "best matches", "true 0 26 0", append(pack2(impl.CheckMatches(orders, returns, 10, []impl.Match{{Order: 1, Number: 2}, {Number: 2}})), pack2(impl.RefundOf(orders, returns, []impl.Match{{Order: 1, Number: 2}, {Number: 2}}))...)...)
	is(t, "with 3 days", "[{0 1 2}] 0", pack2(impl.MatchReturns(orders, returns, 3))...)
	is(t, "left over", "[2] 0", pack2(impl.LeftOver(orders, returns, 3))...)
	is(t, "the only ring", "[[0 1]] 0", pack2(impl.SwapsFor([]int64{1, 2, 3, 4}, []int64{2, 1, 3, 4}))...)
	left, rest, code := impl.PayVouchers(readVouchers(t, "30@5 20@3"), 3, 40)
	is(t, "vouchers", "10@5 0@3 0 0", impl.VouchersText(left), rest, code)
}

func TestValidOrders(t *testing.T) {
	for _, list := range [][]impl.Order{
		nil, {}, {leastOrder}, {greatestOrder}, {greatestOrder, leastOrder, greatestOrder},
		slices.Repeat([]impl.Order{leastOrder}, 40), slices.Repeat([]impl.Order{greatestOrder}, 40),
	} {
		if !impl.ValidOrders(list) {
			t.Errorf("the orders %v are not valid", list)
		}
	}
	for i, list := range invalidOrders {
		if impl.ValidOrders(list) {
			t.Errorf("the list %d is of valid orders", i)
		}
	}
}

func TestValidReturns(t *testing.T) {
	for _, list := range [][]impl.Return{
		nil, {}, {leastReturn}, {greatestReturn}, {greatestReturn, leastReturn, greatestReturn},
		slices.Repeat([]impl.Return{leastReturn}, 40), slices.Repeat([]impl.Return{greatestReturn}, 40),
	} {
		if !impl.ValidReturns(list) {
			t.Errorf("the returns %v are not valid", list)
		}
	}
	for i, list := range invalidReturns {
		if impl.ValidReturns(list) {
			t.Errorf("the list %d is of valid returns", i)
		}
	}
}

func TestMatchReturnsAtTheEdges(t *testing.T) {
	for _, c := range []struct {
		name       string
		orders     []impl.Order
		returns    []impl.Return
		days       int64
		want, left string
	}{
		{"nothing", nil, nil, 0, "[]", "[]"},
		{"no returns", []impl.Order{leastOrder}, nil, 1000, "[]", "[]"},
		{"no orders", nil, []impl.Return{leastReturn, greatestReturn}, 1000, "[]", "[1 100]"},
		{"the same day", []impl.Order{{Number: 1, Day: 5}}, []impl.Return{{Number: 1, Day: 5}}, 0, "[{0 0 1}]", "[0]"},
		{"one day later than days", []impl.Order{{Number: 1, Day: 5}}, []impl.Return{{Number: 1, Day: 6}}, 0, "[]", "[1]"},
		{"as much later as days", []impl.Order{{Number: 1, Day: 5}}, []impl.Return{{Number: 1, Day: 8}}, 3, "[{0 0 1}]", "[0]"},
		{"more than days later", []impl.Order{{Number: 1, Day: 5}}, []impl.Return{{Number: 1, Day: 9}}, 3, "[]", "[1]"},
		{"before the order", []impl.Order{{Number: 1, Day: 5}}, []impl.Return{{Number: 1, Day: 4}}, 1000, "[]", "[1]"},
		{"all days", []impl.Order{{Number: 100}}, []impl.Return{{Number: 100, Day: 1000}}, 1000, "[{0 0 100}]", "[0]"},
		{"all days but one", []impl.Order{{Number: 100}}, []impl.Return{{Number: 100, Day: 1000}}, 999, "[]", "[100]"},
		{"another buyer", []impl.Order{{Buyer: 1, Number: 1}}, []impl.Return{{Buyer: 2, Number: 1}}, 9, "[]", "[1]"},
		{"another item", []impl.Order{{Item: 1, Number: 1}}, []impl.Return{{Item: 2, Number: 1}}, 9, "[]", "[1]"},
		{"buyer and item swapped", []impl.Order{{Buyer: 1, Item: 2, Number: 1}}, []impl.Return{{Buyer: 2, Item: 1, Number: 1}}, 9, "[]", "[1]"},
		// The first order is that of the least day, and of equal ones that with the least index; prices do not count.
		{"by day", []impl.Order{{Number: 1, Price: 9, Day: 5}, {Number: 1, Price: 1, Day: 2}, {Number: 1, Price: 5, Day: 4}}, []impl.Return{{Number: 3, Day: 5}}, 9, "[{0 1 1} {0 2 1} {0 0 1}]", "[0]"},
		{"by day, one piece", []impl.Order{{Number: 3, Price: 9, Day: 5}, {Number: 3, Price: 1, Day: 2}}, []impl.Return{{Number: 1, Day: 5}}, 9, "[{0 1 1}]", "[0]"},
		{"by index", []impl.Order{{Number: 2, Price: 1, Day: 5}, {Number: 2, Price: 9, Day: 5}, {Number: 2, Day: 5}}, []impl.Return{{Number: 5, Day: 5}}, 9, "[{0 0 2} {0 1 2} {0 2 1}]", "[0]"},
		{"by day and index", []impl.Order{{Number: 1, Day: 3}, {Number: 1, Day: 2}, {Number: 1, Day: 3}, {Number: 1, Day: 2}}, []impl.Return{{Number: 100, Day: 3}}, 9, "[{0 1 1} {0 3 1} {0 0 1} {0 2 1}]", "[96]"},
		{"not the ones that are too old", []impl.Order{{Number: 1, Day: 1}, {Number: 1, Day: 9}, {Number: 1, Day: 3}, {Number: 1, Day: 2}}, []impl.Return{{Number: 4, Day: 9}}, 6, "[{0 2 1} {0 1 1}]", "[2]"},
		// Returns are matched in their order, and not by their days.
		{"later return first", []impl.Order{{Number: 2, Day: 1}}, []impl.Return{{Number: 1, Day: 9}, {Number: 2, Day: 1}}, 9, "[{0 0 1} {1 0 1}]", "[0 1]"},
		{"nothing is left for the second one", []impl.Order{{Number: 1, Day: 2}, {Number: 1, Day: 5}}, []impl.Return{{Number: 1, Day: 6}, {Number: 1, Day: 3}}, 9, "[{0 0 1}]", "[0 1]"},
		{"one order of several returns", []impl.Order{{Number: 5}}, []impl.Return{{Number: 2}, {Number: 2}, {Number: 2}, {Number: 2}}, 0, "[{0 0 2} {1 0 2} {2 0 1}]", "[0 0 1 2]"},
		{"orders and returns cut each other", []impl.Order{{Number: 3}, {Number: 3}}, []impl.Return{{Number: 2}, {Number: 2}, {Number: 2}}, 0, "[{0 0 2} {1 0 1} {1 1 1} {2 1 2}]", "[0 0 0]"},
		{"two buyers", []impl.Order{{Buyer: 8, Number: 2}, {Number: 2}}, []impl.Return{{Number: 1}, {Buyer: 8, Number: 3}, {Number: 1}}, 0, "[{0 1 1} {1 0 2} {2 1 1}]", "[0 1 0]"},
	} {
		is(t, c.name, c.want+" 0", pack2(impl.MatchReturns(c.orders, c.returns, c.days))...)
		is(t, "left over: "+c.name, c.left+" 0", pack2(impl.LeftOver(c.orders, c.returns, c.days))...)
	}
}

// P15: the matches are those that are found piece by piece; no piece is matched twice, and as many are matched as matches tell.
func TestMatchReturnsAgainstAll(t *testing.T) {
	matched := 0
	for _, kind := range []trade{littleTrade, denseTrade, greatTrade} {
		kind.each(func(orders []impl.Order, returns []impl.Return, days int64) {
			want := matchesByTrying(orders, returns, days)
			list, code := impl.MatchReturns(orders, returns, days)
			is(t, show("matches", orders, returns, days), show(want, impl.OK), list, code)
			is(t, show("left over", orders, returns, days), show(leftByTrying(returns, want), impl.OK), pack2(impl.LeftOver(orders, returns, days))...)
			is(t, show("right", orders, returns, days), "true true 0", append([]any{areRightByTrying(orders, returns, days, list)}, pack2(impl.CheckMatches(orders, returns, days, list))...)...)
			is(t, show("refund", orders, returns, list), show(refundByTrying(orders, want), impl.OK), pack2(impl.RefundOf(orders, returns, list))...)
			matched += len(list)
		})
	}
	if matched < 5000 {
		t.Errorf("only %d matches have been found", matched)
	}
}

// P15: no right matches refund more than the best ones, which can be had.
func TestBestRefundAgainstAll(t *testing.T) {
	littleTrade.each(func(orders []impl.Order, returns []impl.Return, days int64) {
		want := bestByTrying(orders, returns, days)
		is(t, show("by prices", orders, returns, days), show(want), bestByPrices(orders, returns, days))
		is(t, show("best", orders, returns, days), show(want, impl.OK), pack2(impl.BestRefund(orders, returns, days))...)
	})
	few := trade{cases: 300, orders: 6, returns: 4, buyers: 1, items: 1, number: 5, price: 3, day: 9}
	few.each(func(orders []impl.Order, returns []impl.Return, days int64) {
		is(t, show("best of few", orders, returns, days), show(bestByTrying(orders, returns, days), impl.OK), pack2(impl.BestRefund(orders, returns, days))...)
	})
	for _, kind := range []trade{denseTrade, greatTrade} {
		kind.each(func(orders []impl.Order, returns []impl.Return, days int64) {
			is(t, show("best of many", orders, returns, days), show(bestByPrices(orders, returns, days), impl.OK), pack2(impl.BestRefund(orders, returns, days))...)
		})
	}
}

// P15: neither the first matches nor any that are right refund more than the best ones.
func TestNoRightMatchesRefundMore(t *testing.T) {
	source := rand.New(rand.NewPCG(15, 15))
	right, wrong := 0, 0
	for _, kind := range []trade{littleTrade, denseTrade, greatTrade} {
		kind.each(func(orders []impl.Order, returns []impl.Return, days int64) {
			best, _ := impl.BestRefund(orders, returns, days)
			first, _ := impl.MatchReturns(orders, returns, days)
			for _, list := range [][]impl.Match{first, someMatches(source, orders, returns, days)} {
				want := areRightByTrying(orders, returns, days, list)
				is(t, show("right", orders, returns, days, list), show(want, impl.OK), pack2(impl.CheckMatches(orders, returns, days, list))...)
				refund, code := impl.RefundOf(orders, returns, list)
				is(t, show("refund", orders, list), show(refundByTrying(orders, list), impl.OK), refund, code)
				if want {
					right++
					is(t, show("at most the best", orders, returns, days, list), "true", refund <= best)
				} else {
					wrong++
				}
			}
		})
	}
	if right < 1000 || wrong < 100 {
		t.Errorf("%d lists have been right, and %d wrong", right, wrong)
	}
}

func TestBestRefundAtTheEdges(t *testing.T) {
	for _, c := range []struct {
		name    string
		orders  []impl.Order
		returns []impl.Return
		days    int64
		want    int64
	}{
		{"nothing", nil, nil, 0, 0}, {"no returns", []impl.Order{greatestOrder}, nil, 1000, 0}, {"no orders", nil, []impl.Return{greatestReturn}, 1000, 0},
		{"one", []impl.Order{greatestOrder}, []impl.Return{greatestReturn}, 0, 1000000}, {"for nothing", []impl.Order{{Number: 9}}, []impl.Return{{Number: 9}}, 0, 0},
		{"too late", []impl.Order{{Number: 1, Price: 5}}, []impl.Return{{Number: 1, Day: 3}}, 2, 0}, {"in time", []impl.Order{{Number: 1, Price: 5}}, []impl.Return{{Number: 1, Day: 3}}, 3, 5},
		// The dearer order goes to the return for which there is nothing else.
		{"moved", []impl.Order{{Number: 1, Price: 9, Day: 2}, {Number: 1, Price: 4, Day: 5}}, []impl.Return{{Number: 1, Day: 6}, {Number: 1, Day: 3}}, 9, 13},
		{"moved twice", []impl.Order{{Number: 2, Price: 9, Day: 3}, {Number: 2, Price: 8, Day: 2}, {Number: 2, Price: 7, Day: 1}}, []impl.Return{{Number: 2, Day: 3}, {Number: 2, Day: 4}, {Number: 2, Day: 5}}, 2, 48},
		{"moved in parts", []impl.Order{{Number: 3, Price: 9, Day: 2}, {Number: 3, Price: 5, Day: 5}}, []impl.Return{{Number: 2, Day: 6}, {Number: 2, Day: 3}}, 9, 32},
		{"the cheaper one is the only one", []impl.Order{{Number: 1, Price: 1, Day: 1}, {Number: 1, Price: 9, Day: 9}}, []impl.Return{{Number: 2, Day: 8}}, 9, 1},
		{"apart", []impl.Order{{Number: 2, Price: 3}, {Buyer: 1, Number: 1, Price: 5}, {Item: 1, Number: 1, Price: 7}}, []impl.Return{{Number: 1}, {Buyer: 1, Number: 2}, {Item: 1, Number: 9}}, 0, 15},
		{"all", slices.Repeat([]impl.Order{greatestOrder}, 40), slices.Repeat([]impl.Return{greatestReturn}, 40), 1000, 40000000},
	} {
		is(t, c.name, show(c.want, impl.OK), pack2(impl.BestRefund(c.orders, c.returns, c.days))...)
	}
}

func TestCheckMatchesAtTheEdges(t *testing.T) {
	orders := []impl.Order{{Number: 3, Day: 2}, {Number: 2, Day: 4}, {Buyer: 1, Number: 5, Day: 2}, {Item: 1, Number: 5, Day: 2}}
	returns := []impl.Return{{Number: 4, Day: 4}, {Number: 1, Day: 7}, {Buyer: 1, Number: 5, Day: 2}}
	for _, c := range []struct {
		list []impl.Match
		want bool
	}{
		{nil, true}, {triples(0, 0, 1), true}, {triples(0, 0, 3), true}, {triples(0, 0, 4), false}, {triples(0, 0, 32767), false}, {triples(0, 1, 2), true}, {triples(0, 1, 3), false},
		{triples(0, 0, 3, 0, 1, 1), true}, {triples(0, 1, 1, 0, 0, 3), true}, {triples(0, 0, 3, 0, 1, 2), false}, {triples(0, 0, 2, 0, 1, 2), true},
		{triples(0, 0, 0), false}, {triples(0, 0, -1), false}, {triples(0, 0, -32768), false}, {triples(0, 0, 1, 0, 1, 0), false},
		{triples(-1, 0, 1), false}, {triples(3, 0, 1), false}, {triples(-128, 0, 1), false}, {triples(127, 0, 1), false},
		{triples(0, -1, 1), false}, {triples(0, 4, 1), false}, {triples(0, -128, 1), false}, {triples(0, 127, 1), false}, {triples(0, 0, 1, 3, 0, 1), false},
		// No pair comes twice, even where there are pieces enough.
		{triples(0, 0, 1, 0, 0, 1), false}, {triples(0, 0, 1, 0, 1, 1, 0, 0, 2), false}, {triples(0, 0, 1, 1, 1, 1, 0, 1, 1), true},
		// Buyers, items and days are those of the order.
		{triples(0, 2, 1), false}, {triples(0, 3, 1), false}, {triples(2, 0, 1), false}, {triples(2, 2, 5), true}, {triples(1, 0, 1), false}, {triples(1, 1, 1), true},
		{triples(1, 1, 2), false}, {triples(0, 1, 2, 1, 1, 1), false}, {triples(1, 1, 1, 0, 1, 1, 0, 0, 3, 2, 2, 1), true},
	} {
		is(t, show("right", c.list), show(c.want, impl.OK), pack2(impl.CheckMatches(orders, returns, 3, c.list))...)
	}
	is(t, "the same day", "true 0", pack2(impl.CheckMatches(orders, returns, 0, triples(0, 1, 1)))...)
	is(t, "two days later", "false 0", pack2(impl.CheckMatches(orders, returns, 1, triples(0, 0, 1)))...)
	is(t, "five days later", "true 0", pack2(impl.CheckMatches(orders, returns, 5, triples(1, 0, 1)))...)
	is(t, "before", "false 0", pack2(impl.CheckMatches([]impl.Order{{Number: 1, Day: 1}}, []impl.Return{{Number: 1}}, 1000, triples(0, 0, 1)))...)
}

// Sums of pieces are not cut off, and a hundred matches can be right.
func TestCheckMatchesOfManyPieces(t *testing.T) {
	orders, returns := slices.Repeat([]impl.Order{{Number: 100, Price: 1}}, 40), slices.Repeat([]impl.Return{{Number: 100}}, 40)
	list := []impl.Match{}
	for i := range int8(10) {
		for k := range int8(10) {
			list = append(list, impl.Match{Return: i + 30, Order: k + 30, Number: 10})
		}
	}
	is(t, "a hundred", "true 0 1000 0", append(pack2(impl.CheckMatches(orders, returns, 0, list)), pack2(impl.RefundOf(orders, returns, list))...)...)
	is(t, "one more", "false 3", pack2(impl.CheckMatches(orders, returns, 0, append(slices.Clone(list), impl.Match{Number: 1})))...)
	for i := range list {
		more := slices.Clone(list)
		more[i].Number++
		is(t, show("one piece more", i), "false 0", pack2(impl.CheckMatches(orders, returns, 0, more))...)
		more[i].Number = 32767
		is(t, show("many pieces more", i), "false 0", pack2(impl.CheckMatches(orders, returns, 0, more))...)
	}
	three := triples(0, 0, 32767, 0, 1, 32767, 0, 2, 3)
	is(t, "too many by far", "false 0", pack2(impl.CheckMatches(orders, returns, 0, three))...)
	three = triples(0, 0, 32767, 1, 0, 32767, 2, 0, 3)
	is(t, "too many by far", "false 0", pack2(impl.CheckMatches(orders, returns, 0, three))...)
}

func TestRefundOf(t *testing.T) {
	orders := []impl.Order{{Number: 1, Price: 5, Day: 9}, {Buyer: 8, Number: 2, Price: 10000}, {Item: 3, Number: 1}}
	returns := []impl.Return{{Buyer: 3, Number: 1}, {Item: 2, Number: 1}}
	for _, c := range []struct {
		list []impl.Match
		want string
	}{
		{nil, "0 0"}, {triples(0, 0, 0), "0 0"}, {triples(0, 0, 1), "5 0"}, {triples(1, 1, 1), "10000 0"}, {triples(1, 2, 99), "0 0"},
		// Matches need not be right.
		{triples(0, 0, 1, 0, 0, 1), "10 0"}, {triples(0, 0, 32767, 1, 1, 32767), "327833835 0"}, {triples(1, 1, 0, 0, 0, 7, 0, 2, 7), "35 0"},
		{triples(-1, 0, 1), "0 2"}, {triples(2, 0, 1), "0 2"}, {triples(-128, 0, 1), "0 2"}, {triples(127, 0, 1), "0 2"}, {triples(2, 0, 0), "0 2"},
		{triples(0, -1, 1), "0 2"}, {triples(0, 3, 1), "0 2"}, {triples(0, -128, 1), "0 2"}, {triples(0, 127, 1), "0 2"}, {triples(0, 3, 0), "0 2"},
		{triples(0, 0, -1), "0 2"}, {triples(0, 0, -32768), "0 2"}, {triples(1, 2, -1), "0 2"}, {triples(0, 0, 5, 1, 1, 5, 0, 0, -1), "0 2"}, {triples(0, 3, 5, 1, 1, 5, 0, 0, 1), "0 2"},
	} {
		is(t, show("refund", c.list), c.want, pack2(impl.RefundOf(orders, returns, c.list))...)
	}
	is(t, "of no orders", "0 2", pack2(impl.RefundOf(nil, returns, triples(0, 0, 0)))...)
	is(t, "of no returns", "0 2", pack2(impl.RefundOf(orders, nil, triples(0, 0, 0)))...)
	is(t, "of nothing", "0 0", pack2(impl.RefundOf(nil, nil, nil))...)
	many := slices.Repeat(triples(1, 1, 32767), 900000)
	is(t, "of many", "294903000000000 0", pack2(impl.RefundOf(orders, returns, many))...)
	is(t, "of many, and one that is none", "0 2", pack2(impl.RefundOf(orders, returns, append(many, impl.Match{Number: -1})))...)
}

func TestStillWith(t *testing.T) {
	orders := []impl.Order{{Item: 1, Number: 3, Day: 2}, {Item: 1, Number: 2, Day: 900}, {Buyer: 8, Item: 11, Number: 100}, {Buyer: 8, Number: 7}, {Item: 11, Number: 9}, {Buyer: 1, Number: 4}}
	returns := []impl.Return{{Item: 1, Number: 1, Day: 0}, {Item: 1, Number: 1, Day: 1000}, {Buyer: 8, Number: 8}, {Buyer: 2, Number: 5}, {Buyer: 1, Number: 4}}
	for _, c := range []struct {
		buyer, item int64
		want        string
	}{
		{0, 1, "3 0"}, {8, 11, "100 0"}, {8, 0, "0 0"}, {0, 11, "9 0"}, {2, 0, "0 0"}, {1, 0, "0 0"}, {0, 0, "0 0"}, {1, 1, "0 0"}, {8, 1, "0 0"},
		{-1, 0, "0 2"}, {9, 0, "0 2"}, {0, -1, "0 2"}, {0, 12, "0 2"}, {leastInt, 1, "0 2"}, {mostInt, 1, "0 2"}, {0, leastInt, "0 2"}, {0, mostInt, "0 2"}, {1 << 8, 1, "0 2"}, {0, 1<<8 + 1, "0 2"}, {1 << 32, 1, "0 2"},
	} {
		is(t, show("with", c.buyer, c.item), c.want, pack2(impl.StillWith(orders, returns, c.buyer, c.item))...)
	}
	is(t, "nothing", "0 0", pack2(impl.StillWith(nil, nil, 8, 11))...)
	is(t, "all", "4000 0", pack2(impl.StillWith(slices.Repeat([]impl.Order{greatestOrder}, 40), nil, 8, 11))...)
	is(t, "less than nothing", "0 0", pack2(impl.StillWith(nil, slices.Repeat([]impl.Return{greatestReturn}, 40), 8, 11))...)
}

// What a buyer has is what they have got, less what is matched and what is left over.
func TestStillWithAgreesWithMatches(t *testing.T) {
	for _, kind := range []trade{littleTrade, denseTrade, greatTrade} {
		kind.each(func(orders []impl.Order, returns []impl.Return, days int64) {
			var with [impl.MaxBuyers][impl.MaxThings]int64
			for _, o := range orders {
				with[o.Buyer][o.Item] += int64(o.Number)
			}
			list, _ := impl.MatchReturns(orders, returns, days)
			for _, m := range list {
				with[orders[m.Order].Buyer][orders[m.Order].Item] -= int64(m.Number)
			}
			left, _ := impl.LeftOver(orders, returns, days)
			for i, r := range returns {
				with[r.Buyer][r.Item] -= left[i]
			}
			for buyer := range kind.buyers {
				for item := range kind.items {
					is(t, show("with", orders, returns, buyer, item), show(max(with[buyer][item], 0), impl.OK), pack2(impl.StillWith(orders, returns, int64(buyer), int64(item)))...)
				}
			}
		})
	}
}

// checkInvalidTrade checks all functions of orders and returns that are not both valid.
func checkInvalidTrade(t *testing.T, name string, orders []impl.Order, returns []impl.Return) {
	t.Helper()
	lists := [][]impl.Match{nil, {{Number: 1}}, {{Return: -1, Order: 127, Number: -1}}, make([]impl.Match, 101)}
	for _, n := range append([]int64{0, 10, 1000}, noDays...) {
		is(t, name+": matches", "[] 1", pack2(impl.MatchReturns(orders, returns, n))...)
		is(t, name+": left over", "[] 1", pack2(impl.LeftOver(orders, returns, n))...)
		is(t, name+": best", "0 1", pack2(impl.BestRefund(orders, returns, n))...)
		is(t, name+": with", "0 1", pack2(impl.StillWith(orders, returns, n, 0))...)
		is(t, name+": with", "0 1", pack2(impl.StillWith(orders, returns, 0, n))...)
		for _, list := range lists {
			is(t, name+": right", "false 1", pack2(impl.CheckMatches(orders, returns, n, list))...)
			is(t, name+": refund", "0 1", pack2(impl.RefundOf(orders, returns, list))...)
		}
	}
}

// Orders and returns are checked before days, days before too many matches, and these before the matches.
func TestErrorsOfReturns(t *testing.T) {
	orders, returns := exampleTrade()
	for i, list := range invalidOrders {
		checkInvalidTrade(t, show("orders", i), list, returns)
		checkInvalidTrade(t, show("orders without returns", i), list, nil)
	}
	for i, list := range invalidReturns {
		checkInvalidTrade(t, show("returns", i), orders, list)
		checkInvalidTrade(t, show("returns without orders", i), nil, list)
	}
	checkInvalidTrade(t, "both", invalidOrders[0], invalidReturns[0])
	for _, n := range noDays {
		is(t, show("matches", n), "[] 2", pack2(impl.MatchReturns(orders, returns, n))...)
		is(t, show("left over", n), "[] 2", pack2(impl.LeftOver(orders, returns, n))...)
		is(t, show("best", n), "0 2", pack2(impl.BestRefund(orders, returns, n))...)
		is(t, show("matches of none", n), "[] 2", pack2(impl.MatchReturns(nil, nil, n))...)
		for _, list := range [][]impl.Match{nil, {{Number: 1}}, {{Number: -1}}, make([]impl.Match, 101)} {
			is(t, show("right", n), "false 2", pack2(impl.CheckMatches(orders, returns, n, list))...)
		}
	}
	for _, days := range []int64{0, 10, 1000} {
		for _, many := range []int{101, 102, 256, 1000000} {
			is(t, show("too many", days, many), "false 3", pack2(impl.CheckMatches(orders, returns, days, make([]impl.Match, many)))...)
			is(t, show("too many that can be", days, many), "false 3", pack2(impl.CheckMatches(orders, returns, days, slices.Repeat([]impl.Match{{Number: 1}}, many)))...)
		}
		is(t, show("a hundred", days), "false 0", pack2(impl.CheckMatches(orders, returns, days, make([]impl.Match, 100)))...)
	}
}
