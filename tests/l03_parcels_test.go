package tests

import (
	"math/rand/v2"
	"slices"
	"testing"

	"loop.example/g01366/impl"
)

func TestExampleOfParcels(t *testing.T) {
	table := readTable(t, letterTable)
	is(t, "joined", "9 0", pack2(impl.JoinedPrice(table, 0, []int64{200, 200, 90}))...)
	is(t, "best", "[0 0 0] 9 0", pack3(impl.BestParcels(table, 0, []int64{200, 200, 90}))...)
	is(t, "best", "[0 1] 8 0", pack3(impl.BestParcels(table, 0, []int64{250, 80}))...)
	is(t, "joined", "9 0", pack2(impl.JoinedPrice(table, 0, []int64{250, 80}))...)
}

func TestJoinedPrice(t *testing.T) {
	table := readTable(t, oddTable)
	for _, c := range []struct {
		zone  int64
		items []int64
		want  string
	}{
		{0, nil, "0 0"}, {1, nil, "0 0"}, {1, []int64{10}, "9 0"}, {1, []int64{10, 1}, "2 0"}, {1, []int64{10, 10}, "2 0"}, {1, []int64{10, 10, 1}, "5 0"}, {0, []int64{15, 15}, "6 0"},
		{0, []int64{15, 16}, "0 6"}, {0, []int64{31}, "0 6"}, {1, []int64{1, 1, 1, 1, 1, 1, 1, 24}, "0 6"}, {1, []int64{1, 1, 1, 1, 1, 1, 1, 23}, "5 0"}, {0, slices.Repeat([]int64{2000}, 8), "0 6"},
	} {
		is(t, show("joined", c.zone, c.items), c.want, pack2(impl.JoinedPrice(table, c.zone, c.items))...)
	}
}

// randomSplits calls visit with so many tables, zones and up to size items, each of which has a step alone.
func randomSplits(tables, size, heavy, dear int, visit func(table impl.Table, zone int, items []int64)) {
	source := rand.New(rand.NewPCG(5, uint64(size)))
	randomTables(tables, heavy, dear, func(table impl.Table) {
		visit(table, source.IntN(len(table.Prices)), randomItems(source, size, heaviest(table)))
	})
}

// P10: no parcels are cheaper than the best ones, and none with the same price come before them.
func TestBestParcelsAgainstAll(t *testing.T) {
	for _, dear := range []int{1, 6, 100} {
		randomSplits(120, 5, 30, dear, func(table impl.Table, zone int, items []int64) {
			best, least := parcelsByTrying(items, func(numbers []int64) int64 { return costByTrying(table, zone, items, numbers) })
			is(t, show("best", table, zone, items), show(best, least, impl.OK), pack3(impl.BestParcels(table, int64(zone), items))...)
		})
	}
}

// P10: also of as many items as there may be.
func TestBestParcelsOfManyItems(t *testing.T) {
	check := func(table impl.Table, zone int, items []int64) {
		name := show("best", table, zone, items)
		numbers, sum, code := impl.BestParcels(table, int64(zone), items)
		is(t, name, show(leastCost(table, zone, items), impl.OK), sum, code)
		is(t, name, show(len(items), sum), len(numbers), costByTrying(table, zone, items, numbers))
		is(t, name, "true 0", pack2(impl.CheckParcels(table, items, numbers))...)
		is(t, name, "true", numberedByFirstItems(numbers))
	}
	randomSplits(200, impl.MaxItems, 40, 9, check)
	source := rand.New(rand.NewPCG(6, 6))
	randomTables(60, 200, 500, func(table impl.Table) {
		items := make([]int64, impl.MaxItems)
		for i := range items {
			items[i] = 1 + source.Int64N(heaviest(table)/int64(1+source.IntN(3))+1)
			items[i] = min(items[i], heaviest(table))
		}
		check(table, 0, items)
	})
}

// numberedByFirstItems reports whether each number that is new is one greater than all before; each list that comes first is so.
func numberedByFirstItems(numbers []int64) bool {
	next := int64(0)
	for _, number := range numbers {
		if number > next {
			return false
		}
		next = max(next, number+1)
	}
	return true
}

func TestBestParcelsAtTheEdges(t *testing.T) {
	for _, c := range []struct {
		text  string
		items []int64
		want  string
	}{
		{oddTable, nil, "[] 0 0"},
		{oddTable, []int64{30}, "[0] 6 0"},
		{oddTable, []int64{31}, "[] 0 6"},
		{oddTable, []int64{1, 31}, "[] 0 6"},
		{oddTable, []int64{31, 1}, "[] 0 6"},
		{oddTable, []int64{15, 15}, "[0 0] 6 0"},
		{oddTable, []int64{15, 16}, "[0 1] 8 0"},
		{oddTable, slices.Repeat([]int64{30}, 8), "[0 1 2 3 4 5 6 7] 48 0"},
		{"8\n7\n", slices.Repeat([]int64{1}, 8), "[0 0 0 0 0 0 0 0] 7 0"},
		{"8\n0\n", slices.Repeat([]int64{1}, 8), "[0 0 0 0 0 0 0 0] 0 0"},
		{"8\n0\n", []int64{5, 4, 3, 8}, "[0 1 0 2] 0 0"},
		{"2 3\n1 2\n", []int64{1, 1, 1}, "[0 0 0] 2 0"},
		{"1 2\n1 3\n", []int64{1, 1}, "[0 1] 2 0"},
		{"1 2\n1 2\n", []int64{1, 1}, "[0 0] 2 0"},
		{"5 10\n9 1\n", []int64{2, 3, 4}, "[0 0 0] 1 0"},
		{"2 4\n9 1\n", []int64{1, 1, 1, 1, 1}, "[0 0 0 0 1] 10 0"},
		{"2000\n10000\n", slices.Repeat([]int64{2000}, 8), "[0 1 2 3 4 5 6 7] 80000 0"},
	} {
		is(t, show("best", c.text, c.items), c.want, pack3(impl.BestParcels(readTable(t, c.text), 0, c.items))...)
	}
}

// No fewer parcels are right, and none with the same number of parcels come before.
func TestFewestParcelsAgainstAll(t *testing.T) {
	randomSplits(200, 5, 30, 9, func(table impl.Table, zone int, items []int64) {
		best, count := parcelsByTrying(items, func(numbers []int64) int64 {
			if costByTrying(table, zone, items, numbers) < 0 {
				return -1
			}
			return int64(len(loadsOf(items, numbers)))
		})
		is(t, show("fewest", table, items), show(best, count, impl.OK), pack3(impl.FewestParcels(table, items))...)
	})
}

func TestFewestParcelsOfManyItems(t *testing.T) {
	randomSplits(150, impl.MaxItems, 40, 9, func(table impl.Table, _ int, items []int64) {
		name := show("fewest", table, items)
		numbers, count, code := impl.FewestParcels(table, items)
		is(t, name, show(fewestBySizes(table, items), impl.OK), count, code)
		is(t, name, show(true, count, len(items)), numberedByFirstItems(numbers), len(loadsOf(items, numbers)), len(numbers))
		is(t, name, "true 0", pack2(impl.CheckParcels(table, items, numbers))...)
		if _, greedy, _ := impl.GreedyParcels(table, items); greedy < count {
			t.Errorf("%s: greedy parcels are %d", name, greedy)
		}
	})
}

// fewestBySizes returns how few parcels hold all items, from the least costs in a table in which each parcel costs 1.
func fewestBySizes(table impl.Table, items []int64) int64 {
	return leastCost(impl.Table{Steps: table.Steps[len(table.Steps)-1:], Prices: [][]int16{{1}}}, 0, items)
}

func TestFewestParcelsAtTheEdges(t *testing.T) {
	table := readTable(t, oddTable)
	for _, c := range []struct {
		items []int64
		want  string
	}{
		{nil, "[] 0 0"}, {[]int64{30}, "[0] 1 0"}, {[]int64{31}, "[] 0 6"}, {[]int64{2, 31, 5}, "[] 0 6"}, {[]int64{10, 20}, "[0 0] 1 0"}, {[]int64{10, 21}, "[0 1] 2 0"},
		{[]int64{15, 15, 15, 15}, "[0 0 1 1] 2 0"}, {[]int64{20, 15, 10, 15}, "[0 1 0 1] 2 0"}, {slices.Repeat([]int64{16}, 8), "[0 1 2 3 4 5 6 7] 8 0"},
		{slices.Repeat([]int64{10}, 8), "[0 0 0 1 1 1 2 2] 3 0"}, {[]int64{5, 30, 5}, "[0 1 0] 2 0"},
	} {
		is(t, show("fewest", c.items), c.want, pack3(impl.FewestParcels(table, c.items))...)
	}
}

func TestGreedyParcels(t *testing.T) {
	table := readTable(t, "4 10\n3 5\n")
	for _, c := range []struct {
		items []int64
		want  string
	}{
		{nil, "[] 0 0"}, {[]int64{10}, "[0] 1 0"}, {[]int64{11}, "[] 0 6"}, {[]int64{1, 11}, "[] 0 6"}, {[]int64{1, 2000, 3}, "[] 0 6"}, {[]int64{5, 5}, "[0 0] 1 0"}, {[]int64{5, 6}, "[1 0] 2 0"},
		{[]int64{5, 6, 5}, "[1 0 1] 2 0"}, {[]int64{5, 5, 5}, "[0 0 1] 2 0"}, {[]int64{3, 3, 2, 2, 4, 4}, "[1 1 0 1 0 0] 2 0"}, {[]int64{4, 4, 3, 3, 3, 3}, "[0 0 1 1 1 2] 3 0"},
		{slices.Repeat([]int64{10}, 8), "[0 1 2 3 4 5 6 7] 8 0"}, {slices.Repeat([]int64{1}, 8), "[0 0 0 0 0 0 0 0] 1 0"}, {[]int64{1, 9, 1, 9, 1}, "[0 0 1 1 2] 3 0"},
		{[]int64{1, 2, 3, 4, 5, 6, 7, 8}, "[3 0 1 2 3 2 1 0] 4 0"},
	} {
		is(t, show("greedy", c.items), c.want, pack3(impl.GreedyParcels(table, c.items))...)
	}
}

// Each item is in the first parcel in which it fits behind all that are heavier, or as heavy and before it.
func TestGreedyParcelsFitFirst(t *testing.T) {
	randomSplits(400, impl.MaxItems, 30, 9, func(table impl.Table, _ int, items []int64) {
		numbers, count, code := impl.GreedyParcels(table, items)
		for i, number := range numbers {
			loads := make([]int64, count)
			for k, other := range numbers {
				if items[k] > items[i] || items[k] == items[i] && k < i {
					loads[other] += items[k]
				}
			}
			first := slices.IndexFunc(loads, func(load int64) bool { return load+items[i] <= heaviest(table) })
			is(t, show("greedy", table, items, i), show(first), number)
		}
		is(t, show("greedy", table, items), show(len(items), len(loadsOf(items, numbers)), impl.OK), len(numbers), count, code)
	})
}

func TestCheckParcels(t *testing.T) {
	table := readTable(t, oddTable)
	for _, c := range []struct {
		items, numbers []int64
		want           string
	}{
		{nil, nil, "true 0"}, {nil, []int64{0}, "false 0"}, {[]int64{1}, nil, "false 0"}, {[]int64{1}, []int64{0, 0}, "false 0"}, {[]int64{1, 1}, []int64{0}, "false 0"},
		{[]int64{30}, []int64{0}, "true 0"}, {[]int64{30}, []int64{7}, "true 0"}, {[]int64{30}, []int64{8}, "false 0"}, {[]int64{30}, []int64{-1}, "false 0"},
		{[]int64{30}, []int64{mostInt}, "false 0"}, {[]int64{30}, []int64{leastInt}, "false 0"}, {[]int64{31}, []int64{0}, "false 0"}, {[]int64{1, 31}, []int64{0, 1}, "false 0"},
		{[]int64{15, 15}, []int64{3, 3}, "true 0"}, {[]int64{15, 16}, []int64{3, 3}, "false 0"}, {[]int64{15, 16}, []int64{7, 0}, "true 0"}, {[]int64{1, 1}, []int64{1, 8}, "false 0"},
		{slices.Repeat([]int64{30}, 8), []int64{7, 6, 5, 4, 3, 2, 1, 0}, "true 0"}, {slices.Repeat([]int64{30}, 8), []int64{7, 6, 5, 4, 3, 2, 1, 7}, "false 0"},
		{[]int64{1}, make([]int64, 1000000), "false 0"},
	} {
		is(t, show("check", c.items, c.numbers[:min(len(c.numbers), 9)]), c.want, pack2(impl.CheckParcels(table, c.items, c.numbers))...)
	}
}

func TestCheckParcelsAgainstAll(t *testing.T) {
	randomSplits(60, 4, 20, 3, func(table impl.Table, zone int, items []int64) {
		numberings(len(items), 4, func(numbers []int64) {
			is(t, show("check", table, items, numbers), show(costByTrying(table, zone, items, numbers) >= 0, impl.OK), pack2(impl.CheckParcels(table, items, numbers))...)
		})
	})
}

func TestPriceBound(t *testing.T) {
	for _, c := range []struct {
		text  string
		items []int64
		want  string
	}{
		{letterTable, nil, "0 0"}, {letterTable, []int64{1}, "3 0"}, {letterTable, []int64{500}, "9 0"}, {letterTable, []int64{501}, "0 6"}, {letterTable, []int64{1, 501}, "0 6"},
		{letterTable, []int64{500, 500, 500, 1}, "12 0"}, {letterTable, []int64{500, 500, 500}, "9 0"}, {letterTable, []int64{250, 250, 250, 250}, "6 0"}, {letterTable, []int64{100, 101, 99}, "5 0"},
		{"10 20 30\n9 2 5\n", []int64{10}, "2 0"}, {"10 20 30\n9 2 5\n", []int64{1, 1}, "2 0"}, {"10 20 30\n9 2 5\n", []int64{21, 1}, "5 0"}, {"10 20 30\n9 2 5\n", []int64{30, 30, 30, 1}, "8 0"},
		{"10 20\n0 7\n", []int64{10, 10, 10}, "0 0"}, {"10 20\n0 7\n", []int64{10, 11}, "7 0"}, {"2000\n10000\n", slices.Repeat([]int64{2000}, 8), "80000 0"},
	} {
		is(t, show("bound", c.text, c.items), c.want, pack2(impl.PriceBound(readTable(t, c.text), 0, c.items))...)
	}
}

// The bound is what the document says, and no parcels are cheaper.
func TestPriceBoundAgainstAll(t *testing.T) {
	randomSplits(500, impl.MaxItems, 40, 9, func(table impl.Table, zone int, items []int64) {
		most, weight := int64(0), int64(0)
		for _, item := range items {
			least := int64(impl.MaxPrice)
			for _, step := range table.Steps {
				if int64(step) >= item {
					least = min(least, priceByTrying(table, zone, int64(step)))
				}
			}
			most, weight = max(most, least), weight+item
		}
		parcels := int64(0)
		for parcels*heaviest(table) < weight {
			parcels++
		}
		most = max(most, parcels*int64(slices.Min(table.Prices[zone])))
		is(t, show("bound", table, zone, items), show(most, impl.OK), pack2(impl.PriceBound(table, int64(zone), items))...)
		if least := leastCost(table, zone, items); least < most {
			t.Errorf("%v cost %d in %v, which is less than %d", items, least, table, most)
		}
	})
}

// itemCalls has each function with items, called with a zone if it has one.
var itemCalls = map[string]struct {
	zero string
	call func(table impl.Table, zone int64, items []int64) []any
}{
	"JoinedPrice": {"0", func(table impl.Table, zone int64, items []int64) []any {
		return pack2(impl.JoinedPrice(table, zone, items))
	}},
	"BestParcels": {"[] 0", func(table impl.Table, zone int64, items []int64) []any {
		return pack3(impl.BestParcels(table, zone, items))
	}},
	"PriceBound": {"0", func(table impl.Table, zone int64, items []int64) []any {
		return pack2(impl.PriceBound(table, zone, items))
	}},
	"FewestParcels": {"[] 0", func(table impl.Table, _ int64, items []int64) []any { return pack3(impl.FewestParcels(table, items)) }},
	"GreedyParcels": {"[] 0", func(table impl.Table, _ int64, items []int64) []any { return pack3(impl.GreedyParcels(table, items)) }},
	"CheckParcels": {"false", func(table impl.Table, _ int64, items []int64) []any {
		return pack2(impl.CheckParcels(table, items, make([]int64, len(items))))
	}},
	"CheckParcels, of other parcels": {"false", func(table impl.Table, zone int64, items []int64) []any {
		return pack2(impl.CheckParcels(table, items, []int64{zone, -1, 8}))
	}},
}

// A table is checked before zones and weights, these before too many items, and these before steps; all other results are then zero.
func TestErrorsOfParcels(t *testing.T) {
	heavy := []int64{31}
	many := slices.Repeat(heavy, 9)
	lists := [][]int64{nil, {1}, heavy, {0}, {2001}, many, append(slices.Clone(many), 0), append([]int64{-1}, many...)}
	for name, f := range itemCalls {
		for i, table := range invalidTables() {
			for _, items := range lists {
				is(t, show("invalid:", name, i), f.zero+" 1", f.call(table, 0, items)...)
				is(t, show("invalid:", name, i), f.zero+" 1", f.call(table, -1, items)...)
			}
		}
		table := readTable(t, oddTable)
		for _, weight := range []int64{leastInt, -1, 0, 2001, 1 << 32, mostInt} {
			for _, items := range [][]int64{{weight}, {weight, 31}, {31, weight}, append(slices.Clone(many), weight), append([]int64{weight}, many...)} {
				is(t, show("weight:", name, items), f.zero+" 2", f.call(table, 0, items)...)
			}
		}
		is(t, show("too many:", name), f.zero+" 3", f.call(table, 0, many)...)
		is(t, show("too many:", name), f.zero+" 3", f.call(table, 0, slices.Repeat([]int64{1}, 9))...)
		is(t, show("too many:", name), f.zero+" 3", f.call(table, 0, slices.Repeat([]int64{2000}, 1000000))...)
	}
	table := readTable(t, oddTable)
	for _, zone := range []int64{leastInt, -1, 2, 6, 1 << 32, mostInt} {
		for _, name := range []string{"JoinedPrice", "BestParcels", "PriceBound"} {
			for _, items := range lists {
				is(t, show("zone:", name, zone, items), itemCalls[name].zero+" 2", itemCalls[name].call(table, zone, items)...)
			}
		}
	}
}
