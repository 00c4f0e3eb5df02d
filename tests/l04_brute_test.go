package tests

import (
	"math/rand/v2"
	"slices"
	"testing"

	"loop.example/g01366/impl"
)

// readParcels returns the parcels of a text that has some.
func readParcels(t *testing.T, text string) []impl.Parcel {
	t.Helper()
	list, code := impl.ReadParcels(text)
	if code != impl.OK {
		t.Fatalf("no parcels are read from %q", text)
	}
	return list
}

// readBags returns the bags of a text that has some.
func readBags(t *testing.T, text string) [][]int64 {
	t.Helper()
	bags, code := impl.ReadBags(text)
	if code != impl.OK {
		t.Fatalf("no bags are read from %q", text)
	}
	return bags
}

// randomParcels calls visit with so many lists of up to size parcels, always the same ones, to stops up to last and as heavy as heavy.
func randomParcels(lists, size, last, heavy int, visit func(list []impl.Parcel, source *rand.Rand)) {
	source := rand.New(rand.NewPCG(7, uint64(size*100+last)))
	for range lists {
		list := make([]impl.Parcel, source.IntN(size+1))
		for i := range list {
			list[i] = impl.Parcel{Stop: int8(source.IntN(last + 1)), Weight: int16(1 + source.IntN(heavy))}
		}
		visit(list, source)
	}
}

// shuffled returns the indices of a list in some order.
func shuffled(list []impl.Parcel, source *rand.Rand) []int64 {
	load := []int64{}
	for _, i := range source.Perm(len(list)) {
		load = append(load, int64(i))
	}
	return load
}

// stopsByTrying returns each stop to which some parcel goes.
func stopsByTrying(list []impl.Parcel) []int64 {
	stops := []int64{}
	for stop := range int64(impl.MaxStops) {
		if slices.ContainsFunc(list, func(p impl.Parcel) bool { return int64(p.Stop) == stop }) {
			stops = append(stops, stop)
		}
	}
	return stops
}

// orders calls visit with each order of some numbers that are ascending, the lists in their order.
func orders(numbers []int64, visit func([]int64)) {
	var order []int64
	var grow func()
	grow = func() {
		if len(order) == len(numbers) {
			visit(order)
			return
		}
		for _, number := range numbers {
			if !slices.Contains(order, number) {
				order = append(order, number)
				grow()
				order = order[:len(order)-1]
			}
		}
	}
	grow()
}

// digByTrying takes parcels from above, one after the other, until none of the stop is left, and puts back those for other stops.
func digByTrying(list []impl.Parcel, load, visit []int64) int64 {
	bag := slices.Clone(load)
	lifted := int64(0)
	var aside [impl.MaxParcels]int64
	for _, stop := range visit {
		put := aside[:0]
		goesHere := func(i int64) bool { return int64(list[i].Stop) == stop }
		for slices.ContainsFunc(bag, goesHere) {
			top := bag[len(bag)-1]
			bag = bag[:len(bag)-1]
			if !goesHere(top) {
				put = append(put, top)
			}
		}
		lifted += int64(len(put))
		for len(put) > 0 {
			bag = append(bag, put[len(put)-1])
			put = put[:len(put)-1]
		}
	}
	return lifted
}

// walkByTrying goes step by step from stop to stop.
func walkByTrying(visit []int64) int64 {
	steps, at := int64(0), int64(0)
	for _, stop := range visit {
		for at != stop {
			if at < stop {
				at++
			} else {
				at--
			}
			steps++
		}
	}
	return steps
}

// visitByTrying returns the first one of all visits that cost least, and this cost.
func visitByTrying(list []impl.Parcel, load []int64, dig int64) ([]int64, int64) {
	var best []int64
	least := int64(-1)
	orders(stopsByTrying(list), func(visit []int64) {
		if cost := dig*digByTrying(list, load, visit) + walkByTrying(visit); least < 0 || cost < least {
			best, least = slices.Clone(visit), cost
		}
	})
	return best, least
}

// weightByTrying returns how much all parcels for a stop weigh.
func weightByTrying(list []impl.Parcel, stop int64) int64 {
	sum := int64(0)
	for _, p := range list {
		if int64(p.Stop) == stop {
			sum += int64(p.Weight)
		}
	}
	return sum
}

// splitByTrying fills bag by bag, and returns the bag of each parcel and how many there are, or -1 if one stop is too heavy.
func splitByTrying(list []impl.Parcel, most int64) ([]int64, int64) {
	bags := make([]int64, len(list))
	left := stopsByTrying(list)
	count := int64(0)
	for ; len(left) > 0; count++ {
		if weightByTrying(list, left[0]) > most {
			return []int64{}, -1
		}
		weight := int64(0)
		for len(left) > 0 && weight+weightByTrying(list, left[0]) <= most {
			weight += weightByTrying(list, left[0])
			for i, p := range list {
				if int64(p.Stop) == left[0] {
					bags[i] = count
				}
			}
			left = left[1:]
		}
	}
	return bags, count
}

// heaviestByTrying returns the least weight of the heaviest bag, of all ways to cut the stops into at most so many bags.
func heaviestByTrying(list []impl.Parcel, bags int64) int64 {
	stops := stopsByTrying(list)
	best := int64(mostInt)
	for cuts := range 1 << max(len(stops)-1, 0) {
		count, weight, heaviest := int64(1), int64(0), int64(1)
		for i, stop := range stops {
			if i > 0 && cuts>>(i-1)&1 == 1 {
				count, weight = count+1, 0
			}
			weight += weightByTrying(list, stop)
			heaviest = max(heaviest, weight)
		}
		if count <= bags {
			best = min(best, heaviest)
		}
	}
	return best
}

// smallBags calls visit with all lists of so many bags, with up to high parcels in each one and up to most in all.
func smallBags(count, high, most int, visit func([][]int64)) {
	bags := make([][]int64, count)
	var fill func(bag, left int)
	fill = func(bag, left int) {
		if bag == count {
			visit(bags)
			return
		}
		fill(bag+1, left)
		if left > 0 && len(bags[bag]) < high {
			for owner := range int64(count) {
				bags[bag] = append(bags[bag], owner)
				fill(bag, left-1)
				bags[bag] = bags[bag][:len(bags[bag])-1]
			}
		}
	}
	fill(0, most)
}

// randomBags calls visit with so many lists of bags with up to high parcels in each one, always the same ones.
func randomBags(lists, high int, visit func([][]int64)) {
	source := rand.New(rand.NewPCG(8, uint64(high)))
	for range lists {
		bags := make([][]int64, 1+source.IntN(impl.MaxBags))
		for i := range bags {
			bags[i] = make([]int64, source.IntN(high+1))
			for k := range bags[i] {
				bags[i][k] = source.Int64N(int64(len(bags)))
			}
		}
		visit(bags)
	}
}

// wrongByTrying returns how many parcels lie in a wrong bag.
func wrongByTrying(bags [][]int64) int64 {
	wrong := int64(0)
	for i, bag := range bags {
		wrong += int64(len(slices.DeleteFunc(slices.Clone(bag), func(owner int64) bool { return owner == int64(i) })))
	}
	return wrong
}

// boundByTrying asks of each parcel how often it has to be shifted at least.
func boundByTrying(bags [][]int64) int64 {
	bound := int64(0)
	for i, bag := range bags {
		for k, owner := range bag {
			if owner != int64(i) {
				bound++
			} else if slices.ContainsFunc(bag[:k], func(below int64) bool { return below != int64(i) }) {
				bound += 2
			}
		}
	}
	return bound
}

// shiftByTrying makes a shift, and returns the bags behind it, and the error that it has.
func shiftByTrying(bags [][]int64, s impl.Shift) ([][]int64, int64) {
	from, to, count := int(s.From), int(s.To), len(bags)
	if from == to || from < 0 || to < 0 || from >= count || to >= count {
		return nil, impl.ErrRange
	}
	if len(bags[from]) == 0 {
		return nil, impl.ErrNotFound
	}
	if len(bags[to]) >= impl.MaxHigh {
		return nil, impl.ErrLimit
	}
	next := make([][]int64, count)
	for i, bag := range bags {
		switch i {
		case from:
			next[i] = slices.Clone(bag[:len(bag)-1])
		case to:
			next[i] = append(slices.Clone(bag), bags[from][len(bags[from])-1])
		default:
			next[i] = slices.Clone(bag)
		}
	}
	return next, impl.OK
}

// allShifts returns all shifts of so many bags, in their order.
func allShifts(count int) []impl.Shift {
	var list []impl.Shift
	for from := range count {
		for to := range count {
			if from != to {
				list = append(list, impl.Shift{From: int8(from), To: int8(to)})
			}
		}
	}
	return list
}

// bagsOf tells bags, so that equal ones are told alike.
func bagsOf(bags [][]int64) string {
	return show(bags)
}

// sortByTrying goes through all lists of up to most shifts, shorter ones first, and then in their order, and counts the bags that come up, each once.
// It returns the first list that sorts, how many bags have come up until then, and whether there is one.
func sortByTrying(bags [][]int64, most int) ([]impl.Shift, int64, bool) {
	came := map[string]bool{}
	var found []impl.Shift
	var try func(bags [][]int64, list []impl.Shift, more int) bool
	try = func(bags [][]int64, list []impl.Shift, more int) bool {
		if more == 0 {
			came[bagsOf(bags)] = true
			if wrongByTrying(bags) == 0 {
				found = slices.Clone(list)
				return true
			}
			return false
		}
		for _, s := range allShifts(len(bags)) {
			next, code := shiftByTrying(bags, s)
			if code == impl.OK && try(next, append(list, s), more-1) {
				return true
			}
		}
		return false
	}
	for length := range most + 1 {
		if try(bags, nil, length) {
			return found, int64(len(came)), true
		}
	}
	return nil, int64(len(came)), false
}
