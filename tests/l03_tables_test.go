package tests

import (
	"math/rand/v2"
	"slices"
	"testing"

	"loop.example/g01366/impl"
)

// letterTable is the text of the table of the document's example.
const letterTable = "100 250 500\n3 5 9\n"

// oddTable is the text of a table with two zones that are not rising both.
const oddTable = "10 20 30\n4 4 6\n9 2 5\n"

// invalidTables are no tables.
func invalidTables() []impl.Table {
	rows := func(rows ...[]int16) [][]int16 { return rows }
	row := []int16{3, 5}
	return []impl.Table{
		{}, {Steps: []int16{1}}, {Prices: rows([]int16{1})}, {Prices: rows(nil)}, {Steps: []int16{1, 2}, Prices: [][]int16{}},
		{Steps: []int16{0, 2}, Prices: rows(row)}, {Steps: []int16{-1, 2}, Prices: rows(row)}, {Steps: []int16{-32768, 2}, Prices: rows(row)},
		{Steps: []int16{1, 2001}, Prices: rows(row)}, {Steps: []int16{2001}, Prices: rows(row[:1])}, {Steps: []int16{1, 32767}, Prices: rows(row)},
		{Steps: []int16{2, 2}, Prices: rows(row)}, {Steps: []int16{2, 1}, Prices: rows(row)}, {Steps: []int16{1, 3, 3}, Prices: rows([]int16{1, 2, 3})},
		{Steps: []int16{1, 2, 3, 4, 5, 6, 7, 8, 9, 10, 11}, Prices: rows(make([]int16, 11))},
		{Steps: []int16{1, 2}, Prices: rows(row, row, row, row, row, row, row)},
		{Steps: []int16{1, 2}, Prices: rows(row[:1])}, {Steps: []int16{1, 2}, Prices: rows([]int16{1, 2, 3})}, {Steps: []int16{1, 2}, Prices: rows(nil)},
		{Steps: []int16{1, 2}, Prices: rows(row, row[:1])}, {Steps: []int16{1, 2}, Prices: rows(row, nil)}, {Steps: []int16{1, 2}, Prices: rows(row, row, []int16{1, 2, 3})},
		{Steps: []int16{1, 2}, Prices: rows([]int16{-1, 5})}, {Steps: []int16{1, 2}, Prices: rows([]int16{5, -1})}, {Steps: []int16{1, 2}, Prices: rows(row, []int16{-32768, 1})},
		{Steps: []int16{1, 2}, Prices: rows([]int16{10001, 5})}, {Steps: []int16{1, 2}, Prices: rows([]int16{5, 10001})}, {Steps: []int16{1, 2}, Prices: rows(row, []int16{1, 32767})},
		{Steps: make([]int16, 1000000)}, {Steps: []int16{1}, Prices: make([][]int16, 1000000)}, {Steps: []int16{1}, Prices: rows(make([]int16, 1000000))},
	}
}

func TestLimitsOfPrices(t *testing.T) {
	is(t, "limits", "10 6 2000 10000 8 6", impl.MaxSteps, impl.MaxZones, impl.MaxWeight, impl.MaxPrice, impl.MaxItems, impl.MaxTables)
}

func TestExampleOfTables(t *testing.T) {
	table := readTable(t, letterTable)
	is(t, "table", "{[100 250 500] [[3 5 9]]} true", table, impl.ValidTable(table))
	is(t, "250", "5 0", pack2(impl.PriceOf(table, 0, 250))...)
	is(t, "251", "9 0", pack2(impl.PriceOf(table, 0, 251))...)
	is(t, "dearer", "251 1 0", pack3(impl.FirstDearer(table, 0))...)
	is(t, "1 and 250", "8 0", pack2(impl.PricesOf(table, 0, []int64{1, 250}))...)
	is(t, "rise", "{[100 250 500] [[4 6 10]]} 0", pack2(impl.WithRise(table, 10))...)
}

func TestValidTable(t *testing.T) {
	full := impl.Table{Steps: []int16{1, 2, 3, 4, 5, 6, 7, 8, 9, 2000}, Prices: slices.Repeat([][]int16{{0, 10000, 0, 1, 2, 3, 4, 5, 10000, 0}}, 6)}
	for _, table := range []impl.Table{full, {Steps: []int16{1}, Prices: [][]int16{{0}}}, {Steps: []int16{2000}, Prices: [][]int16{{10000}}}, readTable(t, letterTable), readTable(t, oddTable)} {
		if !impl.ValidTable(table) {
			t.Errorf("the table %v is not valid", table)
		}
	}
	for i, table := range invalidTables() {
		if impl.ValidTable(table) {
			t.Errorf("the list %d is a valid table", i)
		}
	}
}

func TestSameTable(t *testing.T) {
	list := []impl.Table{
		{}, readTable(t, letterTable), readTable(t, oddTable), readTable(t, "100 250 500\n3 5 8\n"), readTable(t, "100 250 501\n3 5 9\n"), readTable(t, "100 250\n3 5\n"),
		readTable(t, "100 250 500\n3 5 9\n3 5 9\n"), readTable(t, "10 20 30\n9 2 5\n4 4 6\n"),
		{Steps: []int16{100, 250, 500}}, {Prices: [][]int16{{3, 5, 9}}}, {Prices: [][]int16{{3, 5}, {9}}}, {Prices: [][]int16{{3}, {5, 9}}}, {Prices: [][]int16{{}}}, {Prices: [][]int16{{}, {}}},
		{Steps: []int16{-1}}, {Steps: []int16{0}}, {Steps: []int16{0, 0}},
	}
	for i, a := range list {
		for k, b := range list {
			if got := impl.SameTable(a, copyOf(b)); got != (i == k) {
				t.Errorf("the tables %v and %v are told to be the same: %v", a, b, got)
			}
		}
	}
	empty := impl.Table{Steps: []int16{}, Prices: [][]int16{}}
	is(t, "no steps", "true true", impl.SameTable(empty, impl.Table{}), impl.SameTable(impl.Table{}, empty))
	is(t, "no prices", "true", impl.SameTable(impl.Table{Prices: [][]int16{nil}}, impl.Table{Prices: [][]int16{{}}}))
}

// copyOf returns a table that shares no memory with another one.
func copyOf(table impl.Table) impl.Table {
	same := impl.Table{Steps: slices.Clone(table.Steps)}
	for _, row := range table.Prices {
		same.Prices = append(same.Prices, slices.Clone(row))
	}
	return same
}

func TestStepsAndPricesAtTheEdges(t *testing.T) {
	table := readTable(t, oddTable)
	for _, c := range []struct {
		weight           int64
		step, near, afar string
	}{
		{1, "0 0", "4 0", "9 0"}, {10, "0 0", "4 0", "9 0"}, {11, "1 0", "4 0", "2 0"}, {20, "1 0", "4 0", "2 0"}, {21, "2 0", "6 0", "5 0"},
		{30, "2 0", "6 0", "5 0"}, {31, "0 6", "0 6", "0 6"}, {2000, "0 6", "0 6", "0 6"},
	} {
		is(t, show("step", c.weight), c.step, pack2(impl.StepFor(table, c.weight))...)
		is(t, show("near", c.weight), c.near, pack2(impl.PriceOf(table, 0, c.weight))...)
		is(t, show("afar", c.weight), c.afar, pack2(impl.PriceOf(table, 1, c.weight))...)
		is(t, show("one of them", c.weight), c.afar, pack2(impl.PricesOf(table, 1, []int64{c.weight}))...)
	}
	is(t, "heaviest of all", "0 0", pack2(impl.StepFor(readTable(t, "2000\n10000\n"), 2000))...)
}

func TestStepsAndPricesAgainstAll(t *testing.T) {
	randomTables(60, 40, 9, func(table impl.Table) {
		for zone := range table.Prices {
			for weight := int64(1); weight <= 45; weight++ {
				price := priceByTrying(table, zone, weight)
				want := show(price, impl.OK)
				if price < 0 {
					want = show(0, impl.ErrNotFound)
				}
				is(t, show("price", table, zone, weight), want, pack2(impl.PriceOf(table, int64(zone), weight))...)
				step, code := impl.StepFor(table, weight)
				if code == impl.OK {
					is(t, show("step", table, weight), show(true, true), int64(table.Steps[step]) >= weight, step == 0 || int64(table.Steps[step-1]) < weight)
				}
				is(t, show("code", table, weight), show(price >= 0, true), code == impl.OK, code == impl.OK || step == 0 && code == impl.ErrNotFound)
			}
		}
	})
}

func TestPricesOf(t *testing.T) {
	table := readTable(t, oddTable)
	for _, c := range []struct {
		zone    int64
		weights []int64
		want    string
	}{
		{0, nil, "0 0"}, {1, nil, "0 0"}, {0, []int64{30, 30}, "12 0"}, {1, []int64{10, 11, 21}, "16 0"}, {1, []int64{1, 1, 1, 1, 1, 1, 1, 1}, "72 0"},
		{0, []int64{31}, "0 6"}, {0, []int64{1, 2, 31}, "0 6"}, {0, []int64{31, 1}, "0 6"}, {0, []int64{15, 15, 15}, "12 0"},
	} {
		is(t, show("prices", c.zone, c.weights), c.want, pack2(impl.PricesOf(table, c.zone, c.weights))...)
	}
	is(t, "most", "80000 0", pack2(impl.PricesOf(readTable(t, "2000\n10000\n"), 0, slices.Repeat([]int64{2000}, 8)))...)
}

func TestHeaviestFor(t *testing.T) {
	table := readTable(t, "10 20 30 40\n9 2 5 7\n3 4 5 6\n0 10000 10000 10000\n")
	for _, c := range []struct {
		zone, price int64
		want        string
	}{
		{0, 0, "0 6"}, {0, 1, "0 6"}, {0, 2, "20 0"}, {0, 4, "20 0"}, {0, 5, "30 0"}, {0, 6, "30 0"}, {0, 7, "40 0"}, {0, 8, "40 0"}, {0, 10000, "40 0"}, {0, mostInt, "40 0"},
		{1, 2, "0 6"}, {1, 3, "10 0"}, {1, 5, "30 0"}, {1, 6, "40 0"}, {2, 0, "10 0"}, {2, 9999, "10 0"}, {2, 10000, "40 0"},
	} {
		is(t, show("heaviest", c.zone, c.price), c.want, pack2(impl.HeaviestFor(table, c.zone, c.price))...)
	}
}

func TestIsRising(t *testing.T) {
	for text, want := range map[string]string{
		letterTable: "true 0", oddTable: "false 0", "10 20\n1 1\n": "true 0", "10 20\n2 1\n": "false 0", "10\n5\n1\n": "true 0",
		"10 20 30\n1 2 3\n1 1 1\n0 5 4\n": "false 0", "10 20 30\n3 2 3\n": "false 0", "10 20 30\n1 2 1\n": "false 0", "10 20\n5 6\n1 2\n": "true 0", "10 20\n0 10000\n": "true 0",
	} {
		is(t, show("rising", text), want, pack2(impl.IsRising(readTable(t, text)))...)
	}
}

// P9: the weight and the part that are told are the least ones; where none is told two parcels are nowhere cheaper.
func TestFirstDearerAgainstAll(t *testing.T) {
	found := 0
	check := func(table impl.Table) {
		for zone := range table.Prices {
			want := show(0, 0, impl.ErrNotFound)
			if weight, part := dearerByTrying(table, zone); weight > 0 {
				want = show(weight, part, impl.OK)
				found++
			}
			is(t, show("dearer", table, zone), want, pack3(impl.FirstDearer(table, int64(zone)))...)
		}
	}
	randomTables(300, 25, 12, check)
	randomTables(100, 60, 200, check)
	randomTables(60, 12, 3, func(table impl.Table) {
		for _, row := range table.Prices {
			slices.Sort(row)
		}
		check(table)
	})
	if found < 100 {
		t.Errorf("only %d weights are dearer", found)
	}
}

// dearerByTrying returns the least weight, with the least part, for which two parcels are cheaper than one, or 0.
func dearerByTrying(table impl.Table, zone int) (int64, int64) {
	for weight := int64(2); weight <= heaviest(table); weight++ {
		for part := int64(1); part <= weight-part; part++ {
			if priceByTrying(table, zone, part)+priceByTrying(table, zone, weight-part) < priceByTrying(table, zone, weight) {
				return weight, part
			}
		}
	}
	return 0, 0
}

func TestFirstDearerAtTheEdges(t *testing.T) {
	for text, want := range map[string]string{
		"1\n5\n":                                       "0 0 6",
		"2000\n10000\n":                                "0 0 6",
		"1 2\n5 11\n":                                  "2 1 0",
		"1 2\n5 10\n":                                  "0 0 6",
		"1000 2000\n5 11\n":                            "1001 1 0",
		"1999 2000\n5000 10000\n":                      "0 0 6",
		"1999 2000\n4999 10000\n":                      "2000 1 0",
		"1000 1999 2000\n5 10 11\n":                    "2000 1000 0",
		"10 20 30\n9 2 5\n":                            "22 11 0",
		"10 20 30\n9 2 4\n":                            "0 0 6",
		"10 20 30\n0 0 1\n":                            "21 1 0",
		"10 20 30\n5 12 13\n":                          "11 1 0",
		"10 15 20 40\n4 9 9 14\n":                      "11 1 0",
		"10 15 20 40\n4 8 9 14\n":                      "16 6 0",
		"100 250 500\n3 6 9\n":                         "0 0 6",
		"100 200 300\n3 6 10\n":                        "201 1 0",
		"100 200 300 400\n3 6 9 13\n":                  "301 1 0",
		"4 5 9\n3 3 8\n":                               "6 1 0",
		"3 6 7\n4 2 9\n":                               "7 1 0",
		"3 6 8 2000\n9 2 3 5\n":                        "9 4 0",
		"1 2 3 4 5 6 7 8 9 10\n1 2 3 4 5 6 7 8 9 11\n": "10 1 0",
	} {
		is(t, show("dearer", text), want, pack3(impl.FirstDearer(readTable(t, text), 0))...)
	}
	two := readTable(t, "1 2\n5 10\n5 11\n")
	is(t, "first zone", "0 0 6", pack3(impl.FirstDearer(two, 0))...)
	is(t, "second zone", "2 1 0", pack3(impl.FirstDearer(two, 1))...)
}

func TestWithRise(t *testing.T) {
	for _, c := range []struct {
		text    string
		percent int64
		want    string
	}{
		{letterTable, 0, letterTable}, {letterTable, 1, "100 250 500\n4 6 10\n"}, {letterTable, 100, "100 250 500\n6 10 18\n"}, {letterTable, 50, "100 250 500\n5 8 14\n"},
		{oddTable, 25, "10 20 30\n5 5 8\n12 3 7\n"}, {"1\n0\n", 100, "1\n0\n"}, {"1\n10000\n", 0, "1\n10000\n"}, {"1\n5000\n", 100, "1\n10000\n"},
		{"1\n9900\n", 1, "1\n9999\n"}, {"1\n9901\n", 1, ""}, {"1\n5001\n", 100, ""}, {"1\n10000\n", 1, ""}, {"1 2\n1 2\n1 10000\n", 1, ""}, {"1 2\n10000 2\n", 100, ""}, {"1\n100\n", 7, "1\n107\n"},
	} {
		risen, code := impl.WithRise(readTable(t, c.text), c.percent)
		if c.want == "" {
			is(t, show("rise", c.text, c.percent), show(impl.Table{}, impl.ErrLimit), risen, code)
		} else {
			is(t, show("rise", c.text, c.percent), show(readTable(t, c.want), impl.OK), risen, code)
		}
	}
}

// A price that has risen is the least one that is at least as much.
func TestWithRiseRoundsUp(t *testing.T) {
	source := rand.New(rand.NewPCG(4, 4))
	for range 3000 {
		price, percent := source.Int64N(impl.MaxPrice+1), source.Int64N(101)
		risen, code := impl.WithRise(impl.Table{Steps: []int16{7}, Prices: [][]int16{{int16(price)}}}, percent)
		exact := price * (100 + percent)
		if code == impl.ErrLimit {
			is(t, show("too much", price, percent), "true", exact > impl.MaxPrice*100)
			continue
		}
		next := int64(risen.Prices[0][0])
		is(t, show("rounded up", price, percent), "0 true true", code, next*100 >= exact, (next-1)*100 < exact)
	}
}

// A table is checked before zones, these and weights before too many of them, and these before steps; all other results are then zero.
func TestErrorsOfTables(t *testing.T) {
	for i, table := range invalidTables() {
		for _, n := range []int64{leastInt, -1, 0, 1, 6, 7, 101, 2001, mostInt} {
			is(t, show("invalid: step", i), "0 1", pack2(impl.StepFor(table, n))...)
			is(t, show("invalid: price", i), "0 1", pack2(impl.PriceOf(table, n, 1))...)
			is(t, show("invalid: price", i), "0 1", pack2(impl.PriceOf(table, 0, n))...)
			is(t, show("invalid: prices", i), "0 1", pack2(impl.PricesOf(table, n, nil))...)
			is(t, show("invalid: prices", i), "0 1", pack2(impl.PricesOf(table, 0, slices.Repeat([]int64{n}, 9)))...)
			is(t, show("invalid: heaviest", i), "0 1", pack2(impl.HeaviestFor(table, 0, n))...)
			is(t, show("invalid: heaviest", i), "0 1", pack2(impl.HeaviestFor(table, n, 1))...)
			is(t, show("invalid: dearer", i), "0 0 1", pack3(impl.FirstDearer(table, n))...)
			is(t, show("invalid: rise", i), "{[] []} 1", pack2(impl.WithRise(table, n))...)
		}
		is(t, show("invalid: rising", i), "false 1", pack2(impl.IsRising(table))...)
	}
	table := readTable(t, oddTable)
	for _, zone := range []int64{leastInt, -1, 2, 3, 6, 1 << 32, mostInt} {
		is(t, "zone: price", "0 2", pack2(impl.PriceOf(table, zone, 1))...)
		is(t, "zone: price without a step", "0 2", pack2(impl.PriceOf(table, zone, 31))...)
		is(t, "zone: prices", "0 2", pack2(impl.PricesOf(table, zone, nil))...)
		is(t, "zone: too many prices", "0 2", pack2(impl.PricesOf(table, zone, slices.Repeat([]int64{31}, 9)))...)
		is(t, "zone: heaviest", "0 2", pack2(impl.HeaviestFor(table, zone, 0))...)
		is(t, "zone: dearer", "0 0 2", pack3(impl.FirstDearer(table, zone))...)
	}
	for _, weight := range []int64{leastInt, -1, 0, 2001, 1 << 32, mostInt} {
		is(t, "weight: step", "0 2", pack2(impl.StepFor(table, weight))...)
		is(t, "weight: price", "0 2", pack2(impl.PriceOf(table, 0, weight))...)
		is(t, "weight: last of too many", "0 2", pack2(impl.PricesOf(table, 0, append(slices.Repeat([]int64{31}, 8), weight)))...)
		is(t, "weight: first one", "0 2", pack2(impl.PricesOf(table, 0, []int64{weight, 31}))...)
	}
	for _, price := range []int64{leastInt, -1} {
		is(t, "price", "0 2", pack2(impl.HeaviestFor(table, 0, price))...)
	}
	for _, percent := range []int64{leastInt, -1, 101, 1 << 32, mostInt} {
		is(t, "percent", "{[] []} 2", pack2(impl.WithRise(table, percent))...)
		is(t, "percent of the dearest", "{[] []} 2", pack2(impl.WithRise(readTable(t, "1\n10000\n"), percent))...)
	}
	is(t, "too many without a step", "0 3", pack2(impl.PricesOf(table, 0, slices.Repeat([]int64{31}, 9)))...)
	is(t, "too many", "0 3", pack2(impl.PricesOf(table, 0, slices.Repeat([]int64{1}, 1000000)))...)
}
