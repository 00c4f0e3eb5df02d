package tests

import (
	"math/rand/v2"
	"slices"
	"testing"

	"loop.example/g01366/impl"
)

// readTable returns the table of a text that has one.
func readTable(t *testing.T, text string) impl.Table {
	t.Helper()
	table, code := impl.ReadTable(text)
	if code != impl.OK {
		t.Fatalf("no table is read from %q", text)
	}
	return table
}

// randomTables calls visit with so many valid tables, always the same ones, with weights up to heaviest and prices up to dearest.
func randomTables(tables int, heaviest, dearest int, visit func(impl.Table)) {
	source := rand.New(rand.NewPCG(3, uint64(heaviest)))
	for range tables {
		var table impl.Table
		for weight := range heaviest {
			if len(table.Steps) < impl.MaxSteps && source.IntN(4) == 0 {
				table.Steps = append(table.Steps, int16(weight+1))
			}
		}
		if len(table.Steps) == 0 {
			table.Steps = []int16{int16(heaviest)}
		}
		for range 1 + source.IntN(impl.MaxZones) {
			row := make([]int16, len(table.Steps))
			for i := range row {
				row[i] = int16(source.IntN(dearest + 1))
			}
			table.Prices = append(table.Prices, row)
		}
		visit(table)
	}
}

// randomItems returns up to size items with weights from 1 to heaviest.
func randomItems(source *rand.Rand, size int, heaviest int64) []int64 {
	items := make([]int64, source.IntN(size+1))
	for i := range items {
		items[i] = 1 + source.Int64N(heaviest)
	}
	return items
}

// heaviest returns the last step of a table.
func heaviest(table impl.Table) int64 {
	return int64(table.Steps[len(table.Steps)-1])
}

// priceByTrying returns the price of a weight in a zone, going through the steps from the last one on, or -1.
func priceByTrying(table impl.Table, zone int, weight int64) int64 {
	price := int64(-1)
	for i := len(table.Steps) - 1; i >= 0 && int64(table.Steps[i]) >= weight; i-- {
		price = int64(table.Prices[zone][i])
	}
	return price
}

// loadsOf returns the weight of each parcel that has items.
func loadsOf(items, numbers []int64) map[int64]int64 {
	loads := map[int64]int64{}
	for i, number := range numbers {
		loads[number] += items[i]
	}
	return loads
}

// costByTrying returns what parcels cost in a zone, or -1 if one of them is too heavy.
func costByTrying(table impl.Table, zone int, items, numbers []int64) int64 {
	sum := int64(0)
	for _, load := range loadsOf(items, numbers) {
		price := priceByTrying(table, zone, load)
		if price < 0 {
			return -1
		}
		sum += price
	}
	return sum
}

// numberings calls visit with each list of so many numbers from 0 to most, in their order.
func numberings(size int, most int64, visit func([]int64)) {
	numbers := make([]int64, size)
	for {
		visit(numbers)
		i := size - 1
		for i >= 0 && numbers[i] == most {
			numbers[i] = 0
			i--
		}
		if i < 0 {
			return
		}
		numbers[i]++
	}
}

// parcelsByTrying returns the first of all lists of numbers for which cost, if it is not -1, is least, and this cost.
func parcelsByTrying(items []int64, cost func(numbers []int64) int64) ([]int64, int64) {
	var best []int64
	least := int64(-1)
	numberings(len(items), int64(max(len(items)-1, 0)), func(numbers []int64) {
		if c := cost(numbers); c >= 0 && (least < 0 || c < least) {
			best, least = slices.Clone(numbers), c
		}
	})
	return best, least
}

// leastCost returns the least cost of parcels with all items, from the least costs of all their parts.
func leastCost(table impl.Table, zone int, items []int64) int64 {
	const never = 1 << 40
	least := make([]int64, 1<<len(items))
	for set := 1; set < len(least); set++ {
		least[set] = never
		for part := set; part > 0; part = (part - 1) & set {
			weight := int64(0)
			for i, item := range items {
				weight += int64(part>>i&1) * item
			}
			if price := priceByTrying(table, zone, weight); price >= 0 {
				least[set] = min(least[set], price+least[set&^part])
			}
		}
	}
	return least[len(least)-1]
}
