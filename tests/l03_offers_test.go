package tests

import (
	"math/rand/v2"
	"slices"
	"strings"
	"testing"

	"loop.example/g01366/impl"
)

func TestExampleOfOffers(t *testing.T) {
	is(t, "free", "3 0", pack2(impl.FreeOf([]int64{5, 3, 9, 4}, 3))...)
}

func TestCheapestTable(t *testing.T) {
	letters, odd := readTable(t, letterTable), readTable(t, oddTable)
	cheap := readTable(t, "5\n0\n")
	for _, c := range []struct {
		tables       []impl.Table
		zone, weight int64
		want         string
	}{
		{nil, 0, 1, "0 0 6"}, {[]impl.Table{letters}, 0, 1, "0 3 0"}, {[]impl.Table{letters, odd}, 0, 1, "0 3 0"}, {[]impl.Table{odd, letters}, 0, 1, "1 3 0"},
		{[]impl.Table{letters, odd}, 1, 11, "1 2 0"}, {[]impl.Table{letters, letters}, 1, 11, "0 0 6"}, {[]impl.Table{letters, odd}, 2, 11, "0 0 6"}, {[]impl.Table{letters, odd}, mostInt, 11, "0 0 6"},
		{[]impl.Table{letters, odd}, 0, 30, "0 3 0"}, {[]impl.Table{odd, letters}, 0, 31, "1 3 0"}, {[]impl.Table{odd, letters}, 1, 31, "0 0 6"}, {[]impl.Table{odd, letters}, 0, 501, "0 0 6"},
		{[]impl.Table{letters, cheap, odd, cheap}, 0, 5, "1 0 0"}, {[]impl.Table{letters, cheap, odd, cheap}, 0, 6, "0 3 0"}, {[]impl.Table{cheap, cheap}, 0, 5, "0 0 0"},
		{slices.Repeat([]impl.Table{odd}, 6), 1, 30, "0 5 0"}, {[]impl.Table{odd, odd, odd, odd, odd, letters}, 0, 30, "5 3 0"}, {[]impl.Table{letters}, 0, 2000, "0 0 6"},
		{[]impl.Table{readTable(t, "2000\n10000\n")}, 0, 2000, "0 10000 0"},
	} {
		is(t, show("cheapest", c.tables, c.zone, c.weight), c.want, pack3(impl.CheapestTable(c.tables, c.zone, c.weight))...)
	}
}

// The table that is told is the first one with the least price, each one being asked by PriceOf.
func TestCheapestTableAgainstAll(t *testing.T) {
	source := rand.New(rand.NewPCG(8, 8))
	var tables []impl.Table
	randomTables(600, 20, 5, func(table impl.Table) {
		if tables = append(tables, table); len(tables) > impl.MaxTables {
			tables = tables[1+source.IntN(impl.MaxTables):]
		}
		zone, weight := source.Int64N(7), 1+source.Int64N(21)
		best, least := -1, int64(0)
		for i, table := range tables {
			if price, code := impl.PriceOf(table, zone, weight); code == impl.OK && (best < 0 || price < least) {
				best, least = i, price
			}
		}
		want := show(best, least, impl.OK)
		if best < 0 {
			want = show(0, 0, impl.ErrNotFound)
		}
		is(t, show("cheapest", tables, zone, weight), want, pack3(impl.CheapestTable(tables, zone, weight))...)
	})
}

func TestErrorsOfCheapestTable(t *testing.T) {
	odd := readTable(t, oddTable)
	for i, table := range invalidTables() {
		for _, list := range [][]impl.Table{{table}, {odd, table}, {table, odd}, append(slices.Repeat([]impl.Table{odd}, 7), table)} {
			for _, n := range []int64{-1, 0, 1, 2001} {
				is(t, show("invalid", i), "0 0 1", pack3(impl.CheapestTable(list, n, 1))...)
				is(t, show("invalid", i), "0 0 1", pack3(impl.CheapestTable(list, 0, n))...)
			}
		}
	}
	for _, list := range [][]impl.Table{nil, {odd}, slices.Repeat([]impl.Table{odd}, 7)} {
		for _, weight := range []int64{leastInt, -1, 0, 2001, 1 << 32, mostInt} {
			is(t, "weight", "0 0 2", pack3(impl.CheapestTable(list, 0, weight))...)
			is(t, "weight", "0 0 2", pack3(impl.CheapestTable(list, 7, weight))...)
		}
		for _, zone := range []int64{leastInt, -1} {
			is(t, "zone", "0 0 2", pack3(impl.CheapestTable(list, zone, 1))...)
			is(t, "zone", "0 0 2", pack3(impl.CheapestTable(list, zone, 2000))...)
		}
	}
	for _, zone := range []int64{0, 1, 2, 6, 7, mostInt} {
		is(t, "too many", "0 0 3", pack3(impl.CheapestTable(slices.Repeat([]impl.Table{odd}, 7), zone, 1))...)
		is(t, "too many", "0 0 3", pack3(impl.CheapestTable(slices.Repeat([]impl.Table{odd}, 7), zone, 2000))...)
	}
}

func TestFreeOf(t *testing.T) {
	for _, c := range []struct {
		prices []int64
		each   int64
		want   string
	}{
		{nil, 2, "0 0"}, {[]int64{5}, 2, "0 0"}, {[]int64{5, 3}, 2, "3 0"}, {[]int64{3, 5}, 2, "3 0"}, {[]int64{5, 3, 1}, 2, "3 0"}, {[]int64{5, 3, 9, 4}, 2, "7 0"}, {[]int64{5, 3, 9, 4}, 4, "3 0"},
		{[]int64{5, 3, 9, 4}, 5, "0 0"}, {[]int64{5, 3, 9, 4}, 8, "0 0"}, {[]int64{8, 7, 6, 5, 4, 3, 2, 1}, 8, "1 0"}, {[]int64{8, 7, 6, 5, 4, 3, 2}, 8, "0 0"}, {[]int64{1, 2, 3, 4, 5, 6}, 3, "5 0"},
		{[]int64{0, 9, 9, 9}, 2, "9 0"}, {[]int64{10000, 10000}, 2, "10000 0"}, {slices.Repeat([]int64{10000}, 100), 2, "500000 0"}, {slices.Repeat([]int64{1}, 100), 8, "12 0"}, {slices.Repeat([]int64{1}, 99), 2, "49 0"},
	} {
		is(t, show("free", c.prices, c.each), c.want, pack2(impl.FreeOf(c.prices, c.each))...)
	}
}

func TestErrorsOfFreeOf(t *testing.T) {
	many := slices.Repeat([]int64{1}, 101)
	for _, each := range []int64{leastInt, -2, -1, 0, 1, 9, 1<<32 + 2, mostInt} {
		for _, prices := range [][]int64{nil, {1, 2, 3}, {-1}, many} {
			is(t, show("each", each), "0 2", pack2(impl.FreeOf(prices, each))...)
		}
	}
	for _, price := range []int64{leastInt, -1, 10001, 1 << 32, mostInt} {
		for _, prices := range [][]int64{{price}, {1, price}, {price, 1}, {1, 2, price}, append(slices.Clone(many), price), append([]int64{price}, many...)} {
			is(t, show("price", price), "0 2", pack2(impl.FreeOf(prices, 2))...)
		}
	}
	is(t, "too many", "0 3", pack2(impl.FreeOf(many, 2))...)
	is(t, "too many", "0 3", pack2(impl.FreeOf(make([]int64, 1000000), 8))...)
}

func TestStampsFor(t *testing.T) {
	table := readTable(t, "10 20 30 40 50\n10 4 0 1000 1001\n1 2 3 4 5\n")
	for _, c := range []struct {
		zone, weight int64
		values       []int64
		want         string
	}{
		{0, 10, []int64{3, 5, 7}, "[0 2 0] 0"}, {0, 20, []int64{3, 5, 7}, "[] 6"}, {0, 21, []int64{3, 5, 7}, "[0 0 0] 0"}, {0, 40, []int64{500}, "[2] 0"}, {0, 40, []int64{1, 500}, "[0 2] 0"},
		{0, 50, []int64{1}, "[] 2"}, {0, 50, []int64{2}, "[] 2"}, {1, 50, []int64{2, 3}, "[1 1] 0"}, {1, 1, []int64{2, 3}, "[] 6"}, {0, 51, []int64{1}, "[] 6"}, {1, 2000, []int64{1}, "[] 6"},
		{1, 31, []int64{1, 2, 3, 4, 5, 6, 7, 8}, "[0 0 0 1 0 0 0 0] 0"},
	} {
		is(t, show("stamps", c.zone, c.weight, c.values), c.want, pack2(impl.StampsFor(table, c.zone, c.weight, c.values))...)
	}
}

// What cannot be told by PriceOf has its error; what can be told is paid as FewestStamps pays it.
func TestStampsForAgreesWithBoth(t *testing.T) {
	randomTables(150, 25, 60, func(table impl.Table) {
		for zone := int64(-1); zone <= int64(len(table.Prices)); zone++ {
			for weight := int64(0); weight <= 26; weight += 2 {
				for _, values := range [][]int64{{1, 5}, {3, 5, 7}, {4, 6}, {7, 50}} {
					price, code := impl.PriceOf(table, zone, weight)
					want := show([]int64{}, code)
					if code == impl.OK {
						counts, _, code := impl.FewestStamps(values, price)
						want = show(counts, code)
					}
					is(t, show("stamps", table, zone, weight, values), want, pack2(impl.StampsFor(table, zone, weight, values))...)
				}
			}
		}
	})
}

func TestErrorsOfStampsFor(t *testing.T) {
	dear := readTable(t, "10\n10000\n")
	for i, table := range invalidTables() {
		for _, n := range []int64{-1, 0, 1, 2001} {
			is(t, show("invalid table", i), "[] 1", pack2(impl.StampsFor(table, n, 1, []int64{1}))...)
			is(t, show("invalid table", i), "[] 1", pack2(impl.StampsFor(table, 0, n, []int64{1}))...)
		}
		is(t, show("all invalid", i), "[] 1", pack2(impl.StampsFor(table, 0, 1, nil))...)
	}
	for _, values := range invalidValues {
		for _, n := range []int64{-1, 0, 1, 11, 2001} {
			is(t, "invalid values", "[] 1", pack2(impl.StampsFor(dear, n, 1, values))...)
			is(t, "invalid values", "[] 1", pack2(impl.StampsFor(dear, 0, n, values))...)
		}
	}
	for _, n := range []int64{leastInt, -1, 1, 6, mostInt} {
		is(t, "zone", "[] 2", pack2(impl.StampsFor(dear, n, 11, []int64{1}))...)
	}
	for _, n := range []int64{leastInt, -1, 0, 2001, mostInt} {
		is(t, "weight", "[] 2", pack2(impl.StampsFor(dear, 0, n, []int64{1}))...)
	}
	is(t, "no step", "[] 6", pack2(impl.StampsFor(dear, 0, 11, []int64{1}))...)
	is(t, "too dear", "[] 2", pack2(impl.StampsFor(dear, 0, 10, []int64{3}))...)
}

func TestTextsOfTables(t *testing.T) {
	for text, want := range map[string]string{
		letterTable: "{[100 250 500] [[3 5 9]]}", oddTable: "{[10 20 30] [[4 4 6] [9 2 5]]}", "1\n0\n": "{[1] [[0]]}", "2000\n10000\n": "{[2000] [[10000]]}",
		"1 2 3 4 5 6 7 8 9 10\n0 0 0 0 0 0 0 0 0 0\n": "{[1 2 3 4 5 6 7 8 9 10] [[0 0 0 0 0 0 0 0 0 0]]}", "5\n1\n2\n3\n4\n5\n6\n": "{[5] [[1] [2] [3] [4] [5] [6]]}",
	} {
		table, code := impl.ReadTable(text)
		is(t, show("table of", text), show(want, impl.OK, text), table, code, impl.TableText(table))
	}
	for i, table := range invalidTables() {
		is(t, show("no table", i), "", impl.TableText(table))
	}
	randomTables(200, 60, impl.MaxPrice, func(table impl.Table) {
		again, code := impl.ReadTable(impl.TableText(table))
		is(t, show("table", table), show(table, impl.OK, true), again, code, impl.SameTable(table, again))
	})
}

func TestTextsThatAreNoTables(t *testing.T) {
	for _, text := range []string{
		"", "\n", "\n\n", " ", "x", "100", "100\n", "100\n3", "100 250\n3 5", "100\n\n", "100\n3\n\n", "\n100\n3\n", "100\n\n3\n", "100\n3\n ", " 100\n3\n", "100 \n3\n", "100\n 3\n", "100\n3 \n",
		"100  250\n3 5\n", "100\t250\n3 5\n", "100 250\r\n3 5\r\n", "100 250\n3  5\n", "100 250\n3\n", "100\n3 5\n", "100 250\n3 5\n3\n", "100 250\n3 5\n3 5 7\n", "100,250\n3,5\n",
		"0\n3\n", "2001\n3\n", "-1\n3\n", "250 100\n3 5\n", "100 100\n3 5\n", "100\n-1\n", "100\n10001\n", "100\n-0\n", "100\n+3\n", "+100\n3\n", "0100\n3\n", "100\n03\n", "100\n00\n", "1e2\n3\n",
		"0x64\n3\n", "1_00\n3\n", "100\n3.0\n", "65636\n3\n", "100\n65539\n", "100\n99999999999999999999\n", "1 2 3 4 5 6 7 8 9 10 11\n0 0 0 0 0 0 0 0 0 0 0\n", "5\n1\n2\n3\n4\n5\n6\n7\n",
		"100\n3\x00\n", "100\n٣\n", "100\nx\n", "\xff\n3\n", strings.Repeat("1\n", 500000), strings.Repeat("1 ", 500000), strings.Repeat("9", 1000000), strings.Repeat("\n", 1000000),
	} {
		table, code := impl.ReadTable(text)
		is(t, show("no table of", text[:min(len(text), 40)]), "{[] []} 5", table, code)
	}
}

// Each text that is one byte away from that of a table is that of the table that is read from it, or of none.
func TestTextsNearTables(t *testing.T) {
	const bytes = " \n0123456789-+x"
	for i := range len(oddTable) + 1 {
		for k := range len(bytes) {
			near := []string{oddTable[:i] + bytes[k:k+1] + oddTable[i:]}
			if i < len(oddTable) {
				near = append(near, oddTable[:i]+oddTable[i+1:], oddTable[:i]+bytes[k:k+1]+oddTable[i+1:])
			}
			for _, text := range near {
				table, code := impl.ReadTable(text)
				if code != impl.OK {
					is(t, show("no table of", text), "{[] []} 5", table, code)
					continue
				}
				is(t, show("table of", text), show(true, text), impl.ValidTable(table), impl.TableText(table))
			}
		}
	}
}
