package tests

import (
	"math/rand/v2"
	"slices"

	"loop.example/g01366/impl"
)

// canBe reports whether a return can be matched with an order.
func canBe(o impl.Order, r impl.Return, days int64) bool {
	if o.Buyer != r.Buyer || o.Item != r.Item {
		return false
	}
	return int64(o.Day) <= int64(r.Day) && int64(r.Day) <= int64(o.Day)+days
}

// matchesByTrying matches piece by piece, and looks through all orders for each one.
func matchesByTrying(orders []impl.Order, returns []impl.Return, days int64) []impl.Match {
	left := slices.Clone(orders)
	list := []impl.Match{}
	for i, r := range returns {
		for range r.Number {
			first := -1
			for k, o := range left {
				if o.Number > 0 && canBe(o, r, days) && (first < 0 || o.Day < left[first].Day) {
					first = k
				}
			}
			if first < 0 {
				break
			}
			left[first].Number--
			k := slices.IndexFunc(list, func(m impl.Match) bool { return int(m.Return) == i && int(m.Order) == first })
			if k < 0 {
				k = len(list)
				list = append(list, impl.Match{Return: int8(i), Order: int8(first)})
			}
			list[k].Number++
		}
	}
	return list
}

// leftByTrying returns how many pieces of each return are in no match.
func leftByTrying(returns []impl.Return, list []impl.Match) []int64 {
	left := []int64{}
	for i, r := range returns {
		number := int64(r.Number)
		for _, m := range list {
			if int(m.Return) == i {
				number -= int64(m.Number)
			}
		}
		left = append(left, number)
	}
	return left
}

// refundByTrying returns the sum of the prices of all pieces.
func refundByTrying(orders []impl.Order, list []impl.Match) int64 {
	sum := int64(0)
	for _, m := range list {
		for range m.Number {
			sum += int64(orders[m.Order].Price)
		}
	}
	return sum
}

// areRightByTrying reports whether all matches are as the document tells.
func areRightByTrying(orders []impl.Order, returns []impl.Return, days int64, list []impl.Match) bool {
	for i, m := range list {
		if m.Return < 0 || int(m.Return) >= len(returns) || m.Order < 0 || int(m.Order) >= len(orders) || m.Number < 1 {
			return false
		}
		if !canBe(orders[m.Order], returns[m.Return], days) {
			return false
		}
		sent, got := 0, 0
		for k, other := range list {
			if k != i && other.Return == m.Return && other.Order == m.Order {
				return false
			}
			if other.Return == m.Return {
				sent += int(other.Number)
			}
			if other.Order == m.Order {
				got += int(other.Number)
			}
		}
		if sent > int(returns[m.Return].Number) || got > int(orders[m.Order].Number) {
			return false
		}
	}
	return true
}

// bestByTrying tries, for each order and each return (of which there are at most 4), all numbers of pieces.
func bestByTrying(orders []impl.Order, returns []impl.Return, days int64) int64 {
	type state struct {
		order, ret int
		pieces     int16
		left       [4]int16
	}
	known := map[state]int64{}
	var bestOf func(s state) int64
	bestOf = func(s state) int64 {
		if s.ret == len(returns) {
			s.order, s.ret = s.order+1, 0
			if s.order < len(orders) {
				s.pieces = orders[s.order].Number
			}
		}
		if s.order >= len(orders) || len(returns) == 0 {
			return 0
		}
		if best, ok := known[s]; ok {
			return best
		}
		next := s
		next.ret++
		best := bestOf(next)
		if canBe(orders[s.order], returns[s.ret], days) {
			for number := int16(1); number <= min(s.pieces, s.left[s.ret]); number++ {
				next.pieces, next.left[s.ret] = s.pieces-number, s.left[s.ret]-number
				best = max(best, int64(number)*int64(orders[s.order].Price)+bestOf(next))
			}
		}
		known[s] = best
		return best
	}
	first := state{order: -1, ret: len(returns)}
	for i, r := range returns {
		first.left[i] = r.Number
	}
	return bestOf(first)
}

// mostMatched returns how many pieces of the orders with at least such a price can be matched. The returns are taken by their
// days, and each piece has the earliest one with which it can be: all later returns can do with a later one as well.
func mostMatched(orders []impl.Order, returns []impl.Return, days int64, price int16) int64 {
	left := slices.DeleteFunc(slices.Clone(orders), func(o impl.Order) bool { return o.Price < price })
	slices.SortFunc(left, func(a, b impl.Order) int { return int(a.Day) - int(b.Day) })
	sorted := slices.Clone(returns)
	slices.SortFunc(sorted, func(a, b impl.Return) int { return int(a.Day) - int(b.Day) })
	most := int64(0)
	for _, r := range sorted {
		for k, o := range left {
			if canBe(o, r, days) {
				number := min(r.Number, o.Number)
				r.Number -= number
				left[k].Number -= number
				most += int64(number)
			}
		}
	}
	return most
}

// bestByPrices returns the best refund: each price that there is adds, for all pieces that can be matched of orders that cost
// at least as much, by how much it is greater than the next lesser one.
func bestByPrices(orders []impl.Order, returns []impl.Return, days int64) int64 {
	prices := []int16{0}
	for _, o := range orders {
		prices = append(prices, o.Price)
	}
	slices.Sort(prices)
	best := int64(0)
	for i, price := range prices[1:] {
		if price > prices[i] {
			best += int64(price-prices[i]) * mostMatched(orders, returns, days, price)
		}
	}
	return best
}

// trade tells how random orders and returns are made: with up to so many of them, and numbers up to these.
type trade struct {
	cases, orders, returns int
	buyers, items          int
	number, price, day     int
}

// each calls visit with orders, returns and days, always the same ones.
func (k trade) each(visit func(orders []impl.Order, returns []impl.Return, days int64)) {
	source := rand.New(rand.NewPCG(uint64(k.cases), uint64(k.orders*1000+k.number)))
	for range k.cases {
		orders := make([]impl.Order, source.IntN(k.orders+1))
		for i := range orders {
			orders[i] = impl.Order{Buyer: int8(source.IntN(k.buyers)), Item: int8(source.IntN(k.items)), Number: int16(1 + source.IntN(k.number)), Price: int16(source.IntN(k.price + 1)), Day: int16(source.IntN(k.day + 1))}
		}
		returns := make([]impl.Return, source.IntN(k.returns+1))
		for i := range returns {
			returns[i] = impl.Return{Buyer: int8(source.IntN(k.buyers)), Item: int8(source.IntN(k.items)), Number: int16(1 + source.IntN(k.number)), Day: int16(source.IntN(k.day + 1))}
		}
		visit(orders, returns, source.Int64N(int64(k.day)+1))
	}
}

// littleTrade can be tried in all ways; the others have many orders of one item, and all that is valid.
var (
	littleTrade = trade{cases: 1500, orders: 4, returns: 4, buyers: 1, items: 2, number: 4, price: 9, day: 6}
	denseTrade  = trade{cases: 400, orders: impl.MaxOrders, returns: impl.MaxOrders, buyers: 2, items: 1, number: 20, price: 50, day: 40}
	greatTrade  = trade{cases: 400, orders: impl.MaxOrders, returns: impl.MaxOrders, buyers: impl.MaxBuyers, items: impl.MaxThings, number: 100, price: impl.MaxPiece, day: impl.MaxDays}
)

// someMatches returns matches, most of them right.
func someMatches(source *rand.Rand, orders []impl.Order, returns []impl.Return, days int64) []impl.Match {
	list := []impl.Match{}
	for i, r := range returns {
		for k, o := range orders {
			if canBe(o, r, days) && source.IntN(3) > 0 {
				list = append(list, impl.Match{Return: int8(i), Order: int8(k), Number: 1 + int16(source.IntN(int(min(o.Number, r.Number))+1)/2)})
			}
		}
	}
	if len(list) > 0 && source.IntN(9) == 0 {
		list = append(list, list[source.IntN(len(list))])
	}
	source.Shuffle(len(list), func(i, k int) { list[i], list[k] = list[k], list[i] })
	return list[:min(len(list), 100)]
}

// exchangesByTrying returns the least number of exchanges of two parcels by which all have their own ones, looking step by step.
func exchangesByTrying(wanted, got []int64) int64 {
	if slices.Equal(wanted, got) {
		return 0
	}
	now, seen := [][]int64{got}, map[string]bool{show(got): true}
	for steps := int64(1); ; steps++ {
		var next [][]int64
		for _, list := range now {
			for i := range list {
				for k := range i {
					other := slices.Clone(list)
					other[i], other[k] = other[k], other[i]
					if slices.Equal(wanted, other) {
						return steps
					}
					if !seen[show(other)] {
						seen[show(other)] = true
						next = append(next, other)
					}
				}
			}
		}
		now = next
	}
}

// payByTrying pays an amount one by one, and looks through all vouchers each time.
func payByTrying(list []impl.Voucher, day, amount int64) ([]impl.Voucher, int64) {
	left := slices.Clone(list)
	for ; amount > 0; amount-- {
		first := -1
		for i, v := range left {
			if v.Amount > 0 && int64(v.Until) >= day && (first < 0 || v.Until < left[first].Until) {
				first = i
			}
		}
		if first < 0 {
			break
		}
		left[first].Amount--
	}
	return left, amount
}

// worthsByTrying returns the sums of the vouchers that can pay on a day, and of those that cannot.
func worthsByTrying(list []impl.Voucher, day int64) (int64, int64) {
	worth, lost := int64(0), int64(0)
	for _, v := range list {
		if int64(v.Until) >= day {
			worth += int64(v.Amount)
		} else {
			lost += int64(v.Amount)
		}
	}
	return worth, lost
}

// shortByTrying returns the first day on which not all is paid, and -1 if there is none.
func shortByTrying(list []impl.Voucher, amounts []int64) int64 {
	for day, amount := range amounts {
		rest := int64(0)
		list, rest = payByTrying(list, int64(day), amount)
		if rest > 0 {
			return int64(day)
		}
	}
	return -1
}

// eachVouchers calls visit with vouchers up to an amount and a day, always the same ones.
func eachVouchers(cases int, amount, until int, visit func(source *rand.Rand, list []impl.Voucher)) {
	source := rand.New(rand.NewPCG(uint64(cases), uint64(amount)))
	for range cases {
		list := make([]impl.Voucher, source.IntN(impl.MaxVouchers+1))
		for i := range list {
			list[i] = impl.Voucher{Amount: int32(source.IntN(amount + 1)), Until: int16(source.IntN(until + 1))}
		}
		visit(source, list)
	}
}
