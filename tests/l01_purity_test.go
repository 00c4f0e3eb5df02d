package tests

import (
	"slices"
	"testing"

	"loop.example/g01366/impl"
)

// stampCalls has each function of the chapter, called with the values, the stock, the list and the number that are told.
var stampCalls = map[string]func(values []int64, stock []impl.Stamp, list []int64, n int64) []any{
	"ValidValues":      func(v []int64, _ []impl.Stamp, _ []int64, _ int64) []any { return []any{impl.ValidValues(v)} },
	"CanPay":           func(v []int64, _ []impl.Stamp, _ []int64, n int64) []any { return pack2(impl.CanPay(v, n)) },
	"FewestStamps":     func(v []int64, _ []impl.Stamp, _ []int64, n int64) []any { return pack3(impl.FewestStamps(v, n)) },
	"GreedyStamps":     func(v []int64, _ []impl.Stamp, _ []int64, n int64) []any { return pack3(impl.GreedyStamps(v, n)) },
	"FirstWrongGreedy": func(v []int64, _ []impl.Stamp, _ []int64, _ int64) []any { return pack2(impl.FirstWrongGreedy(v)) },
	"WaysToPay":        func(v []int64, _ []impl.Stamp, _ []int64, n int64) []any { return pack2(impl.WaysToPay(v, n)) },
	"GapsUpTo":         func(v []int64, _ []impl.Stamp, _ []int64, n int64) []any { return pack2(impl.GapsUpTo(v, n)) },
	"GreatestGap":      func(v []int64, _ []impl.Stamp, _ []int64, _ int64) []any { return pack2(impl.GreatestGap(v)) },
	"LeastOver":        func(v []int64, _ []impl.Stamp, _ []int64, n int64) []any { return pack2(impl.LeastOver(v, n)) },
	"ReachOf":          func(v []int64, _ []impl.Stamp, _ []int64, n int64) []any { return pack2(impl.ReachOf(v, n)) },
	"BestValue":        func(v []int64, _ []impl.Stamp, _ []int64, n int64) []any { return pack3(impl.BestValue(v, n)) },
	"ValidStock":       func(_ []int64, s []impl.Stamp, _ []int64, _ int64) []any { return []any{impl.ValidStock(s)} },
	"SameStock":        func(_ []int64, s []impl.Stamp, _ []int64, _ int64) []any { return []any{impl.SameStock(s, s)} },
	"StockValue":       func(_ []int64, s []impl.Stamp, _ []int64, _ int64) []any { return pack2(impl.StockValue(s)) },
	"PayFrom":          func(_ []int64, s []impl.Stamp, _ []int64, n int64) []any { return pack3(impl.PayFrom(s, n)) },
	"OverFrom":         func(_ []int64, s []impl.Stamp, _ []int64, n int64) []any { return pack3(impl.OverFrom(s, n)) },
	"TakeFrom":         func(_ []int64, s []impl.Stamp, l []int64, _ int64) []any { return pack2(impl.TakeFrom(s, l)) },
	"SpendAll":         func(_ []int64, s []impl.Stamp, l []int64, _ int64) []any { return pack3(impl.SpendAll(s, l)) },
	"MostLetters":      func(_ []int64, s []impl.Stamp, l []int64, _ int64) []any { return pack2(impl.MostLetters(s, l)) },
	"StockText":        func(_ []int64, s []impl.Stamp, _ []int64, _ int64) []any { return []any{impl.StockText(s)} },
	"ReadStock": func(_ []int64, s []impl.Stamp, _ []int64, _ int64) []any {
		return pack2(impl.ReadStock(impl.StockText(s)))
	},
}

// argument lists for the calls; each one is used with each other one.
var (
	someValues = append([][]int64{{1}, {3, 5, 7}, {499, 500}, {4, 6}, {1, 2, 3, 4, 5, 6, 7, 8}}, invalidValues...)
	someStocks = append([][]impl.Stamp{{}, {{Value: 3, Have: 1}, {Value: 5, Have: 1}}, {{Value: 3, Have: 9}, {Value: 5, Have: 50}, {Value: 7}}}, invalidStocks...)
	someLists  = [][]int64{{}, {0}, {0, 1}, {8, 3, 5}, {1, 0, 0}, {6, 6, 10, 3, 1, 8}, {-1, 2}, {leastInt, mostInt}, {1, 1, 1, 1, 1, 1, 1}}
	someCounts = []int64{leastInt, -1, 0, 1, 2, 10, 12, 13, 1000, 1001, mostInt}
)

// P1: every function returns for all arguments, modifies none, not even the room behind it, and returns the same again.
func TestStampsArePure(t *testing.T) {
	for name, call := range stampCalls {
		for i := range max(len(someValues), len(someStocks)) {
			values := roomy(someValues[i%len(someValues)], 77)
			stock := roomy(someStocks[i%len(someStocks)], impl.Stamp{Value: 7, Have: 7})
			for k := range max(len(someLists), len(someCounts)) {
				list := roomy(someLists[k%len(someLists)], 55)
				checkPure(t, name, call, values, stock, list, someCounts[k%len(someCounts)])
			}
		}
	}
}

func checkPure(t *testing.T, name string, call func([]int64, []impl.Stamp, []int64, int64) []any, values []int64, stock []impl.Stamp, list []int64, n int64) {
	t.Helper()
	v, s, l := whole(values), whole(stock), whole(list)
	first := call(values, stock, list, n)
	text := show(first...)
	if !slices.Equal(v, whole(values)) || !slices.Equal(s, whole(stock)) || !slices.Equal(l, whole(list)) {
		t.Errorf("%s modifies an argument", name)
	}
	spoil(first)
	again := show(call(values, stock, list, n)...)
	if !slices.Equal(v, whole(values)) || !slices.Equal(s, whole(stock)) || !slices.Equal(l, whole(list)) {
		t.Errorf("%s returns memory of an argument", name)
	}
	if again != text {
		t.Errorf("%s returns %s and then %s", name, text, again)
	}
}

// spoil overwrites all slices of results with all their room, which must be seen nowhere else.
func spoil(results []any) {
	for _, result := range results {
		switch list := result.(type) {
		case []int64:
			list = list[:cap(list)]
			for i := range list {
				list[i] = -99
			}
		case []impl.Stamp:
			list = list[:cap(list)]
			for i := range list {
				list[i] = impl.Stamp{Value: -99, Have: -99}
			}
		case []impl.Box:
			list = list[:cap(list)]
			for i := range list {
				list[i] = impl.Box{A: -99, B: -99, C: -99}
			}
		case []impl.Parcel:
			list = list[:cap(list)]
			for i := range list {
				list[i] = impl.Parcel{Stop: -99, Weight: -99}
			}
		case []impl.Shift:
			list = list[:cap(list)]
			for i := range list {
				list[i] = impl.Shift{From: -99, To: -99}
			}
		case []impl.Line:
			list = list[:cap(list)]
			for i := range list {
				list[i] = impl.Line{Class: -99, Count: -99, Value: -99, Grams: -99}
			}
		case []impl.Match:
			list = list[:cap(list)]
			for i := range list {
				list[i] = impl.Match{Return: -99, Order: -99, Number: -99}
			}
		case []impl.Voucher:
			list = list[:cap(list)]
			for i := range list {
				list[i] = impl.Voucher{Amount: -99, Until: -99}
			}
		case []impl.Scan:
			list = list[:cap(list)]
			for i := range list {
				list[i] = impl.Scan{Station: -99, Hour: -99}
			}
		case [][2]int64:
			list = list[:cap(list)]
			for i := range list {
				list[i] = [2]int64{-99, -99}
			}
		case impl.Net:
			lanes := list.Lanes[:cap(list.Lanes)]
			for i := range lanes {
				lanes[i] = impl.Lane{From: -99, To: -99, Least: -99, Most: -99}
			}
		case [][]int64:
			for _, bag := range list {
				spoil([]any{bag})
			}
			clear(list[:cap(list)])
		case impl.Table:
			spoilNumbers(list.Steps)
			for _, row := range list.Prices {
				spoilNumbers(row)
			}
			clear(list.Prices[:cap(list.Prices)])
		}
	}
}

// The two slices of SpendAll are apart from each other and from the stock, also if no letter is paid.
func TestResultsShareNoMemory(t *testing.T) {
	stock := read(t, "3x1 5x1")
	for _, letters := range [][]int64{nil, {1}, {0}, {3}} {
		left, sent, _ := impl.SpendAll(stock, letters)
		told := show(sent)
		spoil([]any{left})
		is(t, show("sent", letters), told, sent)
		is(t, show("stock", letters), "3x1 5x1", impl.StockText(stock))
	}
	left, _ := impl.TakeFrom(stock, []int64{0, 0})
	spoil([]any{left})
	is(t, "stock", "3x1 5x1", impl.StockText(stock))
}

// A nil slice and an empty one are equivalent.
func TestNilAndEmptyAreTheSame(t *testing.T) {
	for name, call := range stampCalls {
		is(t, name, show(call(nil, nil, nil, 0)...), call([]int64{}, []impl.Stamp{}, []int64{}, 0)...)
	}
}
