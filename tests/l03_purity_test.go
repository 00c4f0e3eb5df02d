package tests

import (
	"slices"
	"testing"

	"loop.example/g01366/impl"
)

// priceArgs are arguments of the functions of the chapter.
type priceArgs struct {
	table impl.Table
	list  []int64
	more  []int64
	m, n  int64
}

// tables returns the list of tables that CheapestTable is asked for.
func (a priceArgs) tables() []impl.Table {
	return roomy([]impl.Table{a.table, a.table}, a.table)
}

// priceCalls has each function of the chapter.
var priceCalls = map[string]func(a priceArgs) []any{
	"ValidTable":    func(a priceArgs) []any { return []any{impl.ValidTable(a.table)} },
	"SameTable":     func(a priceArgs) []any { return []any{impl.SameTable(a.table, a.table)} },
	"StepFor":       func(a priceArgs) []any { return pack2(impl.StepFor(a.table, a.n)) },
	"PriceOf":       func(a priceArgs) []any { return pack2(impl.PriceOf(a.table, a.m, a.n)) },
	"PricesOf":      func(a priceArgs) []any { return pack2(impl.PricesOf(a.table, a.m, a.list)) },
	"HeaviestFor":   func(a priceArgs) []any { return pack2(impl.HeaviestFor(a.table, a.m, a.n)) },
	"IsRising":      func(a priceArgs) []any { return pack2(impl.IsRising(a.table)) },
	"FirstDearer":   func(a priceArgs) []any { return pack3(impl.FirstDearer(a.table, a.m)) },
	"JoinedPrice":   func(a priceArgs) []any { return pack2(impl.JoinedPrice(a.table, a.m, a.list)) },
	"BestParcels":   func(a priceArgs) []any { return pack3(impl.BestParcels(a.table, a.m, a.list)) },
	"FewestParcels": func(a priceArgs) []any { return pack3(impl.FewestParcels(a.table, a.list)) },
	"GreedyParcels": func(a priceArgs) []any { return pack3(impl.GreedyParcels(a.table, a.list)) },
	"CheckParcels":  func(a priceArgs) []any { return pack2(impl.CheckParcels(a.table, a.list, a.more)) },
	"PriceBound":    func(a priceArgs) []any { return pack2(impl.PriceBound(a.table, a.m, a.list)) },
	"CheapestTable": func(a priceArgs) []any { return pack3(impl.CheapestTable(a.tables(), a.m, a.n)) },
	"WithRise":      func(a priceArgs) []any { return pack2(impl.WithRise(a.table, a.n)) },
	"FreeOf":        func(a priceArgs) []any { return pack2(impl.FreeOf(a.list, a.n)) },
	"StampsFor":     func(a priceArgs) []any { return pack2(impl.StampsFor(a.table, a.m, a.n, a.more)) },
	"TableText":     func(a priceArgs) []any { return []any{impl.TableText(a.table)} },
	"ReadTable":     func(a priceArgs) []any { return pack2(impl.ReadTable(impl.TableText(a.table))) },
}

// roomyTable returns a table with the same steps and prices, and room behind all of its slices.
func roomyTable(table impl.Table) impl.Table {
	same := impl.Table{Steps: roomy(table.Steps, 77)}
	for _, row := range table.Prices {
		same.Prices = append(same.Prices, roomy(row, 66))
	}
	same.Prices = roomy(same.Prices, []int16{55})
	return same
}

// wholeTable tells a table with all its room.
func wholeTable(table impl.Table) string {
	var rows [][]int16
	for _, row := range whole(table.Prices) {
		rows = append(rows, whole(row))
	}
	return show(whole(table.Steps), rows)
}

// wholeArgs tells arguments with all their room.
func wholeArgs(a priceArgs) string {
	return show(wholeTable(a.table), whole(a.list), whole(a.more))
}

// argument lists for the calls; each one is used with each other one.
func someTables(t *testing.T) []impl.Table {
	small := slices.DeleteFunc(invalidTables(), func(table impl.Table) bool {
		return len(table.Steps) > 100 || len(table.Prices) > 100 || len(table.Prices) > 0 && len(table.Prices[0]) > 100
	})
	return append(small[:8:8], readTable(t, letterTable), readTable(t, oddTable), readTable(t, "2000\n10000\n"), readTable(t, "4 10\n3 3\n3 3\n3 3\n"))
}

var somePricePairs = [][2]int64{{0, 1}, {1, 20}, {0, 100}, {0, 251}, {0, 0}, {0, 2}, {0, 8}, {-1, 1}, {6, 5}, {0, 2000}, {leastInt, mostInt}, {mostInt, leastInt}, {0, 101}}

var someItemLists = [][]int64{{}, {0}, {1}, {10, 20, 5}, {250, 80}, {3, 3, 2, 2, 4, 4}, {10, 9, 8, 7, 6, 5, 4, 3}, {1, 1, 1, 1, 1, 1, 1, 1, 1}, {-1, 2}, {2000, 2000}, {leastInt, mostInt}}

// P1: every function returns for all arguments, modifies none, not even the room behind it, and returns the same again.
func TestPricesArePure(t *testing.T) {
	for name, call := range priceCalls {
		for _, table := range someTables(t) {
			for i, list := range someItemLists {
				more := [][]int64{{0, 1, 0}, {1, 3, 7}, list}[i%3]
				for _, pair := range somePricePairs {
					checkPureCall(t, name, call, priceArgs{roomyTable(table), roomy(list, 44), roomy(more, 33), pair[0], pair[1]}, wholeArgs)
				}
			}
		}
	}
}

// CheapestTable leaves the list itself as it is, too.
func TestCheapestTableLeavesTheList(t *testing.T) {
	list := roomy([]impl.Table{readTable(t, oddTable), readTable(t, letterTable)}, readTable(t, "1\n1\n"))
	before := show(whole(list))
	is(t, "cheapest", "1 3 0", pack3(impl.CheapestTable(list, 0, 30))...)
	is(t, "list", before, whole(list))
}

// No two slices of a table that is returned share memory, not even behind their ends.
func TestSlicesOfTablesAreApart(t *testing.T) {
	table := readTable(t, oddTable)
	for name, tell := range map[string]func() (impl.Table, int64){
		"ReadTable": func() (impl.Table, int64) { return impl.ReadTable(oddTable) },
		"WithRise":  func() (impl.Table, int64) { return impl.WithRise(table, 0) },
	} {
		for i := range 3 {
			got, _ := tell()
			lists := [][]int16{got.Steps, got.Prices[0], got.Prices[1]}
			spoilNumbers(lists[i])
			lists[i] = [][]int16{table.Steps, table.Prices[0], table.Prices[1]}[i]
			is(t, show(name, i), show([][]int16{table.Steps, table.Prices[0], table.Prices[1]}), lists)
		}
	}
	is(t, "table", oddTable, impl.TableText(table))
}

// spoilNumbers overwrites a slice with all its room.
func spoilNumbers(list []int16) {
	list = list[:cap(list)]
	for i := range list {
		list[i] = -99
	}
}

// A nil slice and an empty one are equivalent.
func TestNoPricesAndNilAreTheSame(t *testing.T) {
	for name, call := range priceCalls {
		for _, pair := range somePricePairs {
			for _, table := range []impl.Table{{}, readTable(t, letterTable)} {
				empty := table
				if empty.Steps == nil {
					empty = impl.Table{Steps: []int16{}, Prices: [][]int16{}}
				}
				is(t, name, show(call(priceArgs{table, nil, nil, pair[0], pair[1]})...), call(priceArgs{empty, []int64{}, []int64{}, pair[0], pair[1]})...)
			}
		}
	}
}
