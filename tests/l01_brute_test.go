package tests

import (
	"slices"

	"loop.example/g01366/impl"
)

// allCounts calls visit with all counts within limits that pay at most an amount, those that come first as a list first.
func allCounts(values, limits []int64, most int64, visit func(counts []int64, stamps, amount int64)) {
	counts := make([]int64, len(values))
	var fill func(i int, stamps, amount int64)
	fill = func(i int, stamps, amount int64) {
		if i == len(values) {
			visit(counts, stamps, amount)
			return
		}
		for count := int64(0); count <= limits[i] && amount+count*values[i] <= most; count++ {
			counts[i] = count
			fill(i+1, stamps+count, amount+count*values[i])
		}
		counts[i] = 0
	}
	fill(0, 0, 0)
}

// answer is what counts pay an amount, if any do.
type answer struct {
	counts []int64
	stamps int64
	ways   int64
}

// allAnswers returns for each amount up to most the counts with the fewest stamps, found by trying all.
func allAnswers(values, limits []int64, most int64) []answer {
	answers := make([]answer, most+1)
	allCounts(values, limits, most, func(counts []int64, stamps, amount int64) {
		a := &answers[amount]
		a.ways++
		if a.ways == 1 || stamps < a.stamps {
			a.counts, a.stamps = slices.Clone(counts), stamps
		}
	})
	return answers
}

// noLimits returns limits that no amount up to most meets.
func noLimits(values []int64, most int64) []int64 {
	limits := make([]int64, len(values))
	for i := range limits {
		limits[i] = most
	}
	return limits
}

// partsOf returns the values of a stock, and how many stamps it has.
func partsOf(stock []impl.Stamp) (values, limits []int64) {
	for _, stamp := range stock {
		values = append(values, int64(stamp.Value))
		limits = append(limits, int64(stamp.Have))
	}
	return values, limits
}

// stockOf returns a stock of values and how many one has.
func stockOf(values, have []int64) []impl.Stamp {
	var stock []impl.Stamp
	for i, value := range values {
		stock = append(stock, impl.Stamp{Value: int16(value), Have: int16(have[i])})
	}
	return stock
}

// payable returns which amounts up to most can be paid.
func payable(values []int64, most int64) []bool {
	can := make([]bool, most+1)
	can[0] = true
	for amount := range can {
		for _, value := range values {
			if before := amount - int(value); before >= 0 && can[before] {
				can[amount] = true
			}
		}
	}
	return can
}

// reachByTrying returns the reach of values with so many stamps, from all amounts that they pay.
func reachByTrying(values []int64, stamps int64) int64 {
	most := stamps * values[len(values)-1]
	can := make([]bool, most+2)
	allCounts(values, noLimits(values, stamps), most, func(_ []int64, n, amount int64) {
		if n <= stamps {
			can[amount] = true
		}
	})
	reach := int64(0)
	for can[reach+1] {
		reach++
	}
	return reach
}

// spendByTrying pays letters one after the other by trying all counts.
func spendByTrying(stock []impl.Stamp, letters []int64) (left []impl.Stamp, sent []int64) {
	values, have := partsOf(stock)
	for i, letter := range letters {
		a := allAnswers(values, have, letter)[letter]
		if a.ways == 0 {
			continue
		}
		for k, count := range a.counts {
			have[k] -= count
		}
		sent = append(sent, int64(i))
	}
	return stockOf(values, have), sent
}

// mostByTrying returns the most letters that are all paid if they alone are told, by trying all lists.
func mostByTrying(stock []impl.Stamp, letters []int64) []int64 {
	var best []int64
	for set := range 1 << len(letters) {
		var list, told []int64
		for i, letter := range letters {
			if set>>i&1 == 1 {
				list, told = append(list, int64(i)), append(told, letter)
			}
		}
		if _, sent := spendByTrying(stock, told); len(sent) < len(told) {
			continue
		}
		if len(list) > len(best) || len(list) == len(best) && slices.Compare(list, best) < 0 {
			best = list
		}
	}
	return best
}
