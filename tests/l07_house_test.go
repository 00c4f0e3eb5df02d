package tests

import (
	"math/rand/v2"
	"slices"
	"testing"

	"loop.example/g01366/impl"
)

// house has the same parcels as each chapter sees them: the buyer with a number lives at the stop with this number, each parcel
// is an order and a line of a form, and it is scanned on its way.
type house struct {
	table   impl.Table
	values  []int64
	classes []impl.Class
	net     impl.Net
	boxes   []impl.Box
	parcels []impl.Parcel
	weights []int64
	orders  []impl.Order
	returns []impl.Return
	form    []impl.Line
	scans   [][]impl.Scan
}

// houses calls visit with houses of up to six parcels, always the same ones.
func houses(t *testing.T, visit func(h house, source *rand.Rand)) {
	table := readTable(t, "100 250 500 2000\n3 5 9 20\n4 7 8 31\n")
	classes := []impl.Class{{Num: 19, Den: 100}, {Num: 1, Den: 3, Gram: 2, Least: 50}}
	grid{cases: 60, stations: 6, lanes: impl.MaxLanes, stay: 5, takes: 20}.each(func(n impl.Net, source *rand.Rand) {
		h := house{table: table, values: []int64{1, 4, 9, 20}, classes: classes, net: n}
		for range source.IntN(7) {
			h = h.withParcel(source)
		}
		visit(h, source)
	})
}

// withParcel returns the house with one more parcel.
func (h house) withParcel(source *rand.Rand) house {
	side := func() int8 { return int8(1 + source.IntN(20)) }
	buyer, weight := int8(source.IntN(impl.MaxBuyers)), 1+source.IntN(300)
	way := trip(source, h.net, someScan(source, h.net, 100), func(int, int, int) {})
	way = way[:min(len(way), impl.MaxScans)]
	order := impl.Order{Buyer: buyer, Item: int8(len(h.orders)), Number: int16(1 + source.IntN(5)), Price: int16(source.IntN(200)), Day: way[len(way)-1].Hour / 24}
	h.boxes = append(h.boxes, impl.Box{A: side(), B: side(), C: side()})
	h.parcels = append(h.parcels, impl.Parcel{Stop: buyer, Weight: int16(weight)})
	h.weights = append(h.weights, int64(weight))
	h.orders = append(h.orders, order)
	h.returns = append(h.returns, impl.Return{Buyer: order.Buyer, Item: order.Item, Number: order.Number, Day: order.Day + 9})
	h.form = append(h.form, impl.Line{Class: int8(source.IntN(len(h.classes))), Count: order.Number, Value: int32(order.Number) * int32(order.Price), Grams: int32(weight)})
	h.scans = append(h.scans, way)
	return h
}

// result returns a result whose code has to be OK.
func result[R any](t *testing.T, name string) func(r R, code int64) R {
	return func(r R, code int64) R {
		t.Helper()
		if code != impl.OK {
			t.Fatalf("%s has the code %d", name, code)
		}
		return r
	}
}

// P20: the stamps of a parcel pay its price, one by one, as letters of a stock, and all together.
func TestHouseStamps(t *testing.T) {
	houses(t, func(h house, _ *rand.Rand) {
		var prices []int64
		stock := []impl.Stamp{}
		for _, value := range h.values {
			stock = append(stock, impl.Stamp{Value: int16(value), Have: impl.MaxHave})
		}
		for _, weight := range h.weights {
			price := result[int64](t, "price")(impl.PriceOf(h.table, 1, weight))
			counts := result[[]int64](t, "stamps")(impl.StampsFor(h.table, 1, weight, h.values))
			fewest, stamps, _ := impl.FewestStamps(h.values, price)
			is(t, show("fewest", price), show(counts), fewest)
			is(t, show("from stock", price), show(counts, stamps, impl.OK), pack3(impl.PayFrom(stock, price))...)
			left := result[[]impl.Stamp](t, "stock")(impl.TakeFrom(stock, counts))
			is(t, show("taken", price), show(result[int64](t, "value")(impl.StockValue(stock))-price, impl.OK), pack2(impl.StockValue(left))...)
			prices = append(prices, price)
		}
		left, sent, code := impl.SpendAll(stock, prices)
		is(t, "all letters", show(len(prices), impl.OK), len(sent), code)
		postage := result[int64](t, "prices")(impl.PricesOf(h.table, 1, h.weights))
		is(t, "postage", show(postage), result[int64](t, "value")(impl.StockValue(stock))-result[int64](t, "value")(impl.StockValue(left)))
		_, best, _ := impl.BestParcels(h.table, 1, h.weights)
		bound := result[int64](t, "bound")(impl.PriceBound(h.table, 1, h.weights))
		is(t, show("bound, best parcels and all", bound, best, postage), "true true", bound <= best, best <= postage)
	})
}

// P20: the paper that is cut wraps each box, and boxes nest as they are piled.
func TestHouseBoxes(t *testing.T) {
	houses(t, func(h house, _ *rand.Rand) {
		cuts := result[[]int64](t, "cuts")(impl.CutsFor(h.boxes, 60))
		for i, b := range h.boxes {
			is(t, show("wrapped", b), "true 0", pack2(impl.FitsPaper(b, 60, cuts[i]))...)
			_, turn, _ := impl.HowMany(b, b)
			is(t, show("in itself", b), show(result[int64](t, "volume")(impl.VolumeOf(b))), result[int64](t, "volume")(impl.VolumeOf(turn)))
		}
		_, tries, code := impl.FewestRolls(cuts, impl.MaxRoll, impl.MaxWraps)
		is(t, show("rolls", cuts), "true 0", tries >= int64(len(cuts)), code)
		piles, count, _ := impl.FewestPiles(h.boxes)
		apart := result[[]int64](t, "apart")(impl.LargestApart(h.boxes))
		is(t, show("piles", h.boxes), show(len(apart), true, impl.OK), append([]any{count}, pack2(impl.CheckPiles(h.boxes, piles))...)...)
		is(t, "read", show(h.boxes), result[[]impl.Box](t, "boxes")(impl.ReadBoxes(impl.BoxesText(h.boxes))))
	})
}

// P20: the bags of a round are right parcels of the table, and hold what goes to each stop; mixed up, they are sorted again.
func TestHouseBags(t *testing.T) {
	houses(t, func(h house, source *rand.Rand) {
		last := int64(h.table.Steps[len(h.table.Steps)-1])
		bags, count, code := impl.SplitRound(h.parcels, last)
		is(t, "round", "0", code)
		is(t, show("parcels", h.weights, bags), "true 0", pack2(impl.CheckParcels(h.table, h.weights, bags))...)
		_, fewest, _ := impl.FewestParcels(h.table, h.weights)
		heaviest := result[int64](t, "heaviest")(impl.LeastHeaviest(h.parcels, max(count, 1)))
		is(t, show("fewest", h.weights), "true true", fewest <= count, heaviest <= last)
		load := result[[]int64](t, "load")(impl.LoadFor(h.parcels))
		stops := result[[]int64](t, "stops")(impl.StopsOf(h.parcels))
		is(t, show("digging", h.parcels), "0 0", pack2(impl.DiggingOf(h.parcels, load, stops))...)
		is(t, "read", show(h.parcels), result[[]impl.Parcel](t, "parcels")(impl.ReadParcels(impl.ParcelsText(h.parcels))))
		light, _, _ := impl.SplitRound(h.parcels, 600)
		mixed := make([][]int64, impl.MaxBags)
		for _, bag := range light {
			mixed[bag] = append(mixed[bag], bag)
		}
		is(t, show("bags", mixed), "true 0", pack2(impl.IsSorted(mixed))...)
		for range 3 {
			if next, code := impl.ShiftBag(mixed, impl.Shift{From: int8(source.IntN(4)), To: int8(source.IntN(4))}); code == impl.OK {
				mixed = next
			}
		}
		shifts, _, code := impl.FewestShifts(mixed, impl.MaxLooks)
		sorted, shiftCode := impl.ShiftAll(mixed, shifts)
		is(t, show("shifts", mixed), "true 0 0 true 0", append([]any{len(shifts) <= 3, code, shiftCode}, pack2(impl.IsSorted(sorted))...)...)
	})
}

// P20: the form is worth what all orders cost, and weighs what all parcels do; what all send back refunds its worth, and nothing
// is left with them.
func TestHouseForms(t *testing.T) {
	houses(t, func(h house, _ *rand.Rand) {
		worth := result[int64](t, "worth")(impl.WorthOf(h.classes, h.form))
		grams := result[int64](t, "grams")(impl.GramsOf(h.classes, h.form))
		for _, stop := range result[[]int64](t, "stops")(impl.StopsOf(h.parcels)) {
			grams -= result[int64](t, "weight")(impl.WeightAt(h.parcels, stop))
		}
		is(t, "grams", "0", grams)
		matches := result[[]impl.Match](t, "matches")(impl.MatchReturns(h.orders, h.returns, 9))
		is(t, show("matches", h.orders), show(len(h.orders), true, impl.OK), append([]any{len(matches)}, pack2(impl.CheckMatches(h.orders, h.returns, 9, matches))...)...)
		is(t, "refund", show(worth, impl.OK), pack2(impl.RefundOf(h.orders, h.returns, matches))...)
		is(t, "best refund", show(worth, impl.OK), pack2(impl.BestRefund(h.orders, h.returns, 9))...)
		is(t, "too late", "0 0", pack2(impl.BestRefund(h.orders, h.returns, 8))...)
		duty := result[int64](t, "duty")(impl.DutyOf(h.classes, h.form, impl.RoNear))
		sum := int64(0)
		for i, l := range h.form {
			is(t, show("unit", l), show(h.orders[i].Price, impl.OK), pack2(impl.UnitValue(h.classes, l))...)
			is(t, show("still with", i), show(h.orders[i].Number, impl.OK), pack2(impl.StillWith(h.orders, nil, int64(h.orders[i].Buyer), int64(i)))...)
			is(t, show("no more with", i), "0 0", pack2(impl.StillWith(h.orders, h.returns, int64(h.orders[i].Buyer), int64(i)))...)
			sum += result[int64](t, "line")(impl.DutyOfLine(h.classes, l, impl.RoNear))
		}
		is(t, "duty", show(duty), sum)
		is(t, "without duty", "0 0", pack2(impl.WithAllowance(h.classes, h.form, worth, impl.RoNear))...)
		refund := []impl.Voucher{{Amount: int32(worth), Until: 300}}
		left, rest, code := impl.PayVouchers(refund, 300, duty)
		is(t, "paid with the refund", show(worth-min(worth, duty), duty-min(worth, duty), impl.OK), result[int64](t, "left")(impl.WorthAt(left, 300)), rest, code)
		is(t, "read", show(h.form), result[[]impl.Line](t, "form")(impl.ReadForm(h.classes, impl.FormText(h.classes, h.form))))
	})
}

// P20: each parcel is where it has been scanned, its scans are right, and it is not late at the stop where it has arrived.
func TestHouseScans(t *testing.T) {
	houses(t, func(h house, _ *rand.Rand) {
		for i, way := range h.scans {
			first, last := way[0], way[len(way)-1]
			is(t, show("right", way), "true 0", pack2(impl.CheckScans(h.net, way))...)
			is(t, show("sorted", way), show(way, impl.OK), pack2(impl.SortScans(h.net, way))...)
			is(t, show("most", way), show(len(way)), len(result[[]int64](t, "most")(impl.MostScans(h.net, way))))
			is(t, show("late", way), "false 0", pack2(impl.IsLate(h.net, way, int64(last.Station), int64(last.Hour)))...)
			is(t, show("day", way), show(h.orders[i].Day), last.Hour/24)
			route := []int64{}
			earliest := result[[]int64](t, "earliest")(impl.EarliestAt(h.net, first))
			for _, s := range way {
				route = append(route, int64(s.Station))
				stations, _, _ := impl.WhereAt(h.net, first, int64(s.Hour))
				is(t, show("is there", s), "true true", slices.Contains(stations, int64(s.Station)), earliest[s.Station] <= int64(s.Hour))
			}
			for k, hours := range result[[][2]int64](t, "route")(impl.RouteTimes(h.net, route, int64(first.Hour))) {
				is(t, show("hours", way, hours), "true true", hours[0] <= int64(way[k].Hour), int64(way[k].Hour) <= hours[1])
			}
			if len(way) > 1 {
				fewest := result[[]int64](t, "fewest")(impl.FewestLanes(h.net, first, last))
				is(t, show("fewest", way), "true", len(fewest) <= len(way))
				for _, station := range result[[]int64](t, "must pass")(impl.MustPass(h.net, first, last)) {
					is(t, show("passes", way, station), "true", slices.Contains(route, station))
				}
			}
		}
		is(t, "read", show(h.net), result[impl.Net](t, "net")(impl.ReadNet(impl.NetText(h.net))))
	})
}
