package tests

import (
	"math/rand/v2"
	"slices"
	"strings"
	"testing"

	"loop.example/g01366/impl"
)

// roundText is that of the parcels of the document's example.
const roundText = "2:5 0:3 2:1 1:4"

// invalidParcels are lists that are no parcels.
var invalidParcels = [][]impl.Parcel{
	{{Stop: -1, Weight: 1}}, {{Stop: 9, Weight: 1}}, {{Stop: -128, Weight: 1}}, {{Stop: 127, Weight: 1}},
	{{Stop: 0, Weight: 0}}, {{Stop: 0, Weight: -1}}, {{Stop: 0, Weight: 5001}}, {{Stop: 0, Weight: -32768}}, {{Stop: 0, Weight: 32767}},
	{{Stop: 1, Weight: 1}, {Stop: 9, Weight: 1}}, {{Stop: 1, Weight: 0}, {Stop: 1, Weight: 1}}, {{Stop: 9, Weight: 5001}},
	slices.Repeat([]impl.Parcel{{Stop: 1, Weight: 1}}, 11), slices.Repeat([]impl.Parcel{{Stop: 1, Weight: 1}}, 1000000), make([]impl.Parcel, 1),
}

func TestLimitsOfRounds(t *testing.T) {
	is(t, "limits", "9 10 5000 100 4 6 20000", impl.MaxStops, impl.MaxParcels, impl.MaxHeavy, impl.MaxDig, impl.MaxBags, impl.MaxHigh, impl.MaxLooks)
}

func TestValidParcels(t *testing.T) {
	for _, list := range [][]impl.Parcel{
		nil, {}, {{Stop: 0, Weight: 1}}, {{Stop: 8, Weight: 5000}}, {{Stop: 3, Weight: 7}, {Stop: 3, Weight: 7}}, {{Stop: 8, Weight: 1}, {Stop: 0, Weight: 5000}},
		slices.Repeat([]impl.Parcel{{Stop: 8, Weight: 5000}}, 10),
	} {
		if !impl.ValidParcels(list) {
			t.Errorf("parcels %v are not valid", list)
		}
	}
	for _, list := range invalidParcels {
		if impl.ValidParcels(list) {
			t.Errorf("%d parcels are valid: %v", len(list), list[:min(11, len(list))])
		}
	}
}

func TestExampleOfRounds(t *testing.T) {
	list := readParcels(t, roundText)
	load, code := impl.LoadFor(list)
	is(t, "load", "[2 0 3 1] 0", load, code)
	is(t, "nothing is lifted", "0 0", pack2(impl.DiggingOf(list, load, []int64{0, 1, 2}))...)
	is(t, "three are lifted", "3 0", pack2(impl.DiggingOf(list, load, []int64{2, 1, 0}))...)
	is(t, "walk", "4 0", pack2(impl.WalkOf(list, []int64{2, 1, 0}))...)
	is(t, "split", "[1 0 1 0] 2 0", pack3(impl.SplitRound(list, 8))...)
	is(t, "least heaviest", "7 0", pack2(impl.LeastHeaviest(list, 2))...)
}

func TestStopsAndWeights(t *testing.T) {
	for text, want := range map[string]string{
		"": "[] 0", "8:1": "[8] 0", "0:5000": "[0] 0", roundText: "[0 1 2] 0", "8:1 0:1 8:2 5:1": "[0 5 8] 0",
		"8:1 7:1 6:1 5:1 4:1 3:1 2:1 1:1 0:1 4:1": "[0 1 2 3 4 5 6 7 8] 0",
	} {
		is(t, "stops of "+text, want, pack2(impl.StopsOf(readParcels(t, text)))...)
	}
	randomParcels(200, impl.MaxParcels, 8, impl.MaxHeavy, func(list []impl.Parcel, _ *rand.Rand) {
		is(t, show("stops", list), show(stopsByTrying(list), impl.OK), pack2(impl.StopsOf(list))...)
		for stop := range int64(impl.MaxStops) {
			is(t, show("weight", list, stop), show(weightByTrying(list, stop), impl.OK), pack2(impl.WeightAt(list, stop))...)
		}
	})
	is(t, "heaviest stop", "50000 0", pack2(impl.WeightAt(slices.Repeat([]impl.Parcel{{Stop: 8, Weight: 5000}}, 10), 8))...)
	is(t, "no parcel", "0 0", pack2(impl.WeightAt(nil, 8))...)
}

// P11: what is loaded last comes out first: greater stops lie below, and of one stop greater indices, so that nothing is lifted.
func TestLoadFor(t *testing.T) {
	for text, want := range map[string]string{
		"": "[] 0", "4:1": "[0] 0", "0:1 1:1 2:1": "[2 1 0] 0", "2:1 1:1 0:1": "[0 1 2] 0", "3:1 3:9 3:5": "[2 1 0] 0", "8:1 0:1 8:1 0:1": "[2 0 3 1] 0",
		"0:9 0:8 0:7 0:6 0:5 1:1 1:2 1:3 1:4 1:5": "[9 8 7 6 5 4 3 2 1 0] 0",
	} {
		is(t, "load of "+text, want, pack2(impl.LoadFor(readParcels(t, text)))...)
	}
	randomParcels(300, impl.MaxParcels, 8, 9, func(list []impl.Parcel, _ *rand.Rand) {
		load, code := impl.LoadFor(list)
		is(t, show("load", list), show(len(list), impl.OK), len(load), code)
		for i := 1; i < len(load); i++ {
			below, above := list[load[i-1]].Stop, list[load[i]].Stop
			is(t, show("load", list, i), "true", below > above || below == above && load[i-1] > load[i])
		}
		is(t, show("digging", list), "0 0", pack2(impl.DiggingOf(list, load, stopsByTrying(list)))...)
	})
}

func TestDiggingAndWalkAgainstAll(t *testing.T) {
	randomParcels(150, impl.MaxParcels, 4, 9, func(list []impl.Parcel, source *rand.Rand) {
		load := shuffled(list, source)
		orders(stopsByTrying(list), func(visit []int64) {
			is(t, show("digging", list, load, visit), show(digByTrying(list, load, visit), impl.OK), pack2(impl.DiggingOf(list, load, visit))...)
			is(t, show("walk", list, visit), show(walkByTrying(visit), impl.OK), pack2(impl.WalkOf(list, visit))...)
		})
	})
	randomParcels(300, impl.MaxParcels, 8, 9, func(list []impl.Parcel, source *rand.Rand) {
		load, visit := shuffled(list, source), stopsByTrying(list)
		source.Shuffle(len(visit), func(i, k int) { visit[i], visit[k] = visit[k], visit[i] })
		is(t, show("digging", list, load, visit), show(digByTrying(list, load, visit), impl.OK), pack2(impl.DiggingOf(list, load, visit))...)
		is(t, show("walk", list, visit), show(walkByTrying(visit), impl.OK), pack2(impl.WalkOf(list, visit))...)
	})
}

// What is lifted lies above the lowest parcel of the stop, goes to another stop, and has not been taken out before.
func TestWhatIsLifted(t *testing.T) {
	for _, c := range []struct {
		text        string
		load, visit []int64
		want        string
	}{
		{"", nil, nil, "0 0"},
		{"3:1", []int64{0}, []int64{3}, "0 0"},
		{"3:1 3:1 3:1", []int64{1, 2, 0}, []int64{3}, "0 0"},
		{"0:1 1:1", []int64{0, 1}, []int64{0, 1}, "1 0"},
		{"0:1 1:1", []int64{1, 0}, []int64{0, 1}, "0 0"},
		{"0:1 1:1", []int64{0, 1}, []int64{1, 0}, "0 0"},
		{"0:1 1:1 0:1", []int64{0, 1, 2}, []int64{0, 1}, "1 0"},
		{"0:1 1:1 0:1", []int64{2, 1, 0}, []int64{1, 0}, "1 0"},
		{"0:1 1:1 0:1 1:1", []int64{0, 1, 2, 3}, []int64{0, 1}, "2 0"},
		{"0:1 1:1 0:1 1:1", []int64{0, 1, 2, 3}, []int64{1, 0}, "1 0"},
		{"0:1 1:1 0:1 1:1", []int64{1, 0, 3, 2}, []int64{0, 1}, "1 0"},
		{"0:1 1:1 2:1", []int64{0, 1, 2}, []int64{0, 1, 2}, "3 0"},
		{"0:1 1:1 2:1", []int64{0, 1, 2}, []int64{1, 0, 2}, "2 0"},
		{"0:1 1:1 2:1", []int64{0, 1, 2}, []int64{2, 1, 0}, "0 0"},
		{"8:1 7:1 6:1 5:1 4:1 3:1 2:1 1:1 0:1 0:1", []int64{0, 1, 2, 3, 4, 5, 6, 7, 8, 9}, []int64{8, 7, 6, 5, 4, 3, 2, 1, 0}, "44 0"},
		{"8:1 7:1 6:1 5:1 4:1 3:1 2:1 1:1 0:1 0:1", []int64{9, 8, 0, 1, 2, 3, 4, 5, 6, 7}, []int64{0, 8, 1, 2, 3, 4, 5, 6, 7}, "15 0"},
	} {
		is(t, show("digging", c.text, c.load, c.visit), c.want, pack2(impl.DiggingOf(readParcels(t, c.text), c.load, c.visit))...)
	}
}

func TestWalkOf(t *testing.T) {
	for _, c := range []struct {
		text  string
		visit []int64
		want  string
	}{
		{"", nil, "0 0"}, {"0:1", []int64{0}, "0 0"}, {"8:1", []int64{8}, "8 0"}, {"3:1 5:1", []int64{3, 5}, "5 0"}, {"3:1 5:1", []int64{5, 3}, "7 0"},
		{"0:1 8:1", []int64{8, 0}, "16 0"}, {"0:1 1:1 2:1 3:1 4:1 5:1 6:1 7:1 8:1", []int64{8, 0, 7, 1, 6, 2, 5, 3, 4}, "44 0"},
	} {
		is(t, show("walk", c.text, c.visit), c.want, pack2(impl.WalkOf(readParcels(t, c.text), c.visit))...)
	}
}

// P11: no visit costs less than the best one, and none that costs as much comes before it.
func TestBestVisitAgainstAll(t *testing.T) {
	check := func(list []impl.Parcel, load []int64, dig int64) {
		best, least := visitByTrying(list, load, dig)
		is(t, show("visit", list, load, dig), show(best, least, impl.OK), pack3(impl.BestVisit(list, load, dig))...)
	}
	for _, dig := range []int64{0, 1, 2, 5, 100} {
		randomParcels(80, impl.MaxParcels, 5, 9, func(list []impl.Parcel, source *rand.Rand) {
			check(list, shuffled(list, source), dig)
		})
		randomParcels(40, 7, 8, 9, func(list []impl.Parcel, source *rand.Rand) {
			check(list, shuffled(list, source), dig)
		})
	}
}

// P11: also with all stops.
func TestBestVisitOfAllStops(t *testing.T) {
	list := readParcels(t, "4:1 7:1 0:1 2:1 8:1 1:1 6:1 3:1 5:1 4:2")
	for i, load := range [][]int64{{3, 1, 4, 0, 5, 9, 2, 6, 8, 7}, {0, 1, 2, 3, 4, 5, 6, 7, 8, 9}} {
		dig := []int64{3, 1}[i]
		best, least := visitByTrying(list, load, dig)
		is(t, show("visit", load, dig), show(best, least, impl.OK), pack3(impl.BestVisit(list, load, dig))...)
	}
}

func TestBestVisitAtTheEdges(t *testing.T) {
	for _, c := range []struct {
		text string
		load []int64
		dig  int64
		want string
	}{
		{"", nil, 0, "[] 0 0"},
		{"", []int64{}, 100, "[] 0 0"},
		{"0:1", []int64{0}, 100, "[0] 0 0"},
		{"8:1 8:1", []int64{1, 0}, 100, "[8] 8 0"},
		{"0:1 8:1", []int64{0, 1}, 0, "[0 8] 8 0"},
		{"0:1 8:1", []int64{0, 1}, 7, "[0 8] 15 0"},
		{"0:1 8:1", []int64{0, 1}, 8, "[0 8] 16 0"},
		{"0:1 8:1", []int64{0, 1}, 9, "[8 0] 16 0"},
		{"1:1 3:1", []int64{0, 1}, 2, "[1 3] 5 0"},
		{"1:1 3:1", []int64{0, 1}, 3, "[3 1] 5 0"},
		{"8:1 0:1", []int64{0, 1}, 100, "[0 8] 8 0"},
		{roundText, []int64{2, 0, 3, 1}, 100, "[0 1 2] 2 0"},
		{roundText, []int64{0, 1, 2, 3}, 100, "[1 0 2] 104 0"},
	} {
		is(t, show("visit", c.text, c.load, c.dig), c.want, pack3(impl.BestVisit(readParcels(t, c.text), c.load, c.dig))...)
	}
}

func TestSplitRoundAgainstAll(t *testing.T) {
	for _, heavy := range []int{3, 9, impl.MaxHeavy} {
		randomParcels(150, impl.MaxParcels, 8, heavy, func(list []impl.Parcel, source *rand.Rand) {
			for range 12 {
				most := 1 + source.Int64N(int64(heavy)*4)
				bags, count := splitByTrying(list, most)
				want := show(bags, count, impl.OK)
				if count < 0 {
					want = show(bags, 0, impl.ErrNotFound)
				}
				is(t, show("split", list, most), want, pack3(impl.SplitRound(list, most))...)
			}
			for bags := int64(1); bags <= impl.MaxParcels; bags++ {
				least := heaviestByTrying(list, bags)
				is(t, show("heaviest", list, bags), show(least, impl.OK), pack2(impl.LeastHeaviest(list, bags))...)
				_, count, code := impl.SplitRound(list, least)
				is(t, show("enough", list, bags), "0 true", code, count <= bags)
				_, count, code = impl.SplitRound(list, least-1)
				is(t, show("not enough", list, bags), "true", code != impl.OK || count > bags)
			}
		})
	}
}

func TestSplitRoundAtTheEdges(t *testing.T) {
	for _, c := range []struct {
		text string
		most int64
		want string
	}{
		{"", 1, "[] 0 0"}, {"", mostInt, "[] 0 0"}, {"8:1", 1, "[0] 1 0"}, {"8:2", 1, "[] 0 6"}, {"8:1 8:1", 1, "[] 0 6"}, {"8:1 8:1", 2, "[0 0] 1 0"},
		{"0:1 1:2", 1, "[] 0 6"}, {"0:1 1:1", 1, "[0 1] 2 0"}, {"1:1 0:1", 1, "[1 0] 2 0"}, {roundText, mostInt, "[0 0 0 0] 1 0"}, {roundText, 13, "[0 0 0 0] 1 0"}, {roundText, 12, "[1 0 1 0] 2 0"},
		{roundText, 7, "[1 0 1 0] 2 0"}, {roundText, 6, "[2 0 2 1] 3 0"}, {roundText, 5, "[] 0 6"},
		// A light stop behind one that does not fit does not go back to the bag before.
		{"0:3 1:8 2:1", 9, "[0 1 1] 2 0"}, {"0:3 1:9 2:1", 9, "[0 1 2] 3 0"}, {"3:5 5:5 7:5", 10, "[0 0 1] 2 0"},
		{"0:5000 1:5000 2:5000 3:5000 4:5000 5:5000 6:5000 7:5000 8:5000 8:5000", 10000, "[0 0 1 1 2 2 3 3 4 4] 5 0"},
	} {
		is(t, show("split", c.text, c.most), c.want, pack3(impl.SplitRound(readParcels(t, c.text), c.most))...)
	}
}

func TestLeastHeaviestAtTheEdges(t *testing.T) {
	for _, c := range []struct {
		text string
		bags int64
		want string
	}{
		{"", 1, "1 0"}, {"", 10, "1 0"}, {"4:1", 1, "1 0"}, {"4:1", 10, "1 0"}, {"4:5000", 1, "5000 0"}, {"0:1 1:1", 1, "2 0"}, {"0:1 1:1", 2, "1 0"}, {"0:1 1:1", 10, "1 0"},
		{roundText, 1, "13 0"}, {roundText, 3, "6 0"}, {roundText, 10, "6 0"}, {"0:4 2:1 4:1 6:4", 2, "5 0"}, {"0:4 2:1 4:2 6:4", 2, "6 0"}, {"0:9 1:1 2:9", 2, "10 0"},
		{strings.TrimSuffix(strings.Repeat("8:5000 ", 10), " "), 10, "50000 0"}, {strings.TrimSuffix(strings.Repeat("0:5000 ", 10), " "), 1, "50000 0"},
	} {
		is(t, show("heaviest", c.text, c.bags), c.want, pack2(impl.LeastHeaviest(readParcels(t, c.text), c.bags))...)
	}
}

// wrongOrders are lists that have not each of the numbers 0, 1 and 2 once.
var wrongOrders = [][]int64{
	nil, {}, {0}, {0, 1}, {1, 2}, {0, 1, 1}, {0, 0, 2}, {2, 2, 2}, {0, 1, 3}, {1, 2, 3}, {-1, 0, 1}, {0, 1, -1}, {0, 1, mostInt}, {leastInt, 0, 1}, {0, 1, 1<<32 + 2}, {0, 1, 2, 2}, {0, 1, 2, 3}, make([]int64, 1000000),
}

// Parcels are checked before numbers, these before loads and visits; all other results are then zero.
func TestErrorsOfRounds(t *testing.T) {
	for i, list := range invalidParcels {
		is(t, show("invalid: stops", i), "[] 1", pack2(impl.StopsOf(list))...)
		is(t, show("invalid: load", i), "[] 1", pack2(impl.LoadFor(list))...)
		is(t, show("invalid: text", i), "", impl.ParcelsText(list))
		for _, n := range []int64{leastInt, -1, 0, 1, 9, 11, 101, mostInt} {
			is(t, show("invalid: weight", i), "0 1", pack2(impl.WeightAt(list, n))...)
			is(t, show("invalid: split", i), "[] 0 1", pack3(impl.SplitRound(list, n))...)
			is(t, show("invalid: heaviest", i), "0 1", pack2(impl.LeastHeaviest(list, n))...)
			for _, order := range [][]int64{nil, {0}, {n}, {0, 1}, {1, 9}, {0, 1, 2, 3, 4, 5, 6, 7, 8, 9, 10}} {
				is(t, show("invalid: digging", i), "0 1", pack2(impl.DiggingOf(list, order, []int64{n}))...)
				is(t, show("invalid: digging", i), "0 1", pack2(impl.DiggingOf(list, []int64{n}, order))...)
				is(t, show("invalid: walk", i), "0 1", pack2(impl.WalkOf(list, order))...)
				is(t, show("invalid: visit", i), "[] 0 1", pack3(impl.BestVisit(list, order, n))...)
			}
		}
	}
	list := readParcels(t, "2:5000 0:5000 1:5000")
	for _, n := range []int64{leastInt, -1, 9, 1 << 8, 1 << 32, mostInt} {
		is(t, show("no stop", n), "0 2", pack2(impl.WeightAt(list, n))...)
		is(t, show("no stop", n), "0 2", pack2(impl.WeightAt(nil, n))...)
	}
	for _, n := range []int64{leastInt, -1, 0} {
		is(t, show("most", n), "[] 0 2", pack3(impl.SplitRound(list, n))...)
		is(t, show("most", n), "[] 0 2", pack3(impl.SplitRound(nil, n))...)
	}
	for _, n := range []int64{leastInt, -1, 0, 11, 1 << 32, mostInt} {
		is(t, show("bags", n), "0 2", pack2(impl.LeastHeaviest(list, n))...)
		is(t, show("bags", n), "0 2", pack2(impl.LeastHeaviest(nil, n))...)
	}
	for _, order := range append([][]int64{{0, 1, 2}, {2, 0, 1}}, wrongOrders...) {
		for _, n := range []int64{leastInt, -1, 101, 1 << 32, mostInt} {
			is(t, show("dig", n), "[] 0 2", pack3(impl.BestVisit(list, order, n))...)
		}
	}
}

func TestLoadsAndVisitsThatAreNone(t *testing.T) {
	list := readParcels(t, "2:5000 0:5000 1:5000")
	right := []int64{2, 0, 1}
	for i, order := range wrongOrders {
		is(t, show("load", i), "0 4", pack2(impl.DiggingOf(list, order, right))...)
		is(t, show("visit", i), "0 4", pack2(impl.DiggingOf(list, right, order))...)
		is(t, show("both", i), "0 4", pack2(impl.DiggingOf(list, order, order))...)
		is(t, show("walk", i), "0 4", pack2(impl.WalkOf(list, order))...)
		for _, dig := range []int64{0, 100} {
			is(t, show("load", i), "[] 0 4", pack3(impl.BestVisit(list, order, dig))...)
		}
	}
	// A visit has stops, and a load has indices.
	far := readParcels(t, "5:1 8:1 5:1")
	is(t, "indices are no visit", "0 4", pack2(impl.WalkOf(far, []int64{0, 1}))...)
	is(t, "a stop twice is no visit", "0 4", pack2(impl.WalkOf(far, []int64{5, 8, 5}))...)
	is(t, "stops are no load", "0 4", pack2(impl.DiggingOf(far, []int64{5, 8, 5}, []int64{5, 8}))...)
	is(t, "stops are no load", "[] 0 4", pack3(impl.BestVisit(far, []int64{5, 8}, 1))...)
	is(t, "a visit", "8 0", pack2(impl.WalkOf(far, []int64{5, 8}))...)
	is(t, "a load and a visit", "2 0", pack2(impl.DiggingOf(far, []int64{1, 2, 0}, []int64{8, 5}))...)
	is(t, "no parcels have a load", "0 4", pack2(impl.DiggingOf(nil, []int64{0}, nil))...)
	is(t, "no parcels have a visit", "0 4", pack2(impl.DiggingOf(nil, nil, []int64{0}))...)
	is(t, "no parcels have a walk", "0 4", pack2(impl.WalkOf(nil, []int64{0}))...)
	is(t, "no parcels have a load", "[] 0 4", pack3(impl.BestVisit(nil, []int64{0}, 1))...)
}

func TestParcelsTextIsRead(t *testing.T) {
	for _, text := range []string{"", "0:1", "8:5000", roundText, "3:10 3:10 3:100", "8:1 7:2 6:3 5:4 4:5 3:6 2:7 1:8 0:9 0:10"} {
		is(t, "text", text, impl.ParcelsText(readParcels(t, text)))
	}
	is(t, "parcels", "[{2 5} {0 5000}] 0", pack2(impl.ReadParcels("2:5 0:5000"))...)
	is(t, "parcels", "2:5 0:5000", impl.ParcelsText([]impl.Parcel{{Stop: 2, Weight: 5}, {Stop: 0, Weight: 5000}}))
	is(t, "no parcels", "[] 0", pack2(impl.ReadParcels(""))...)
	randomParcels(200, impl.MaxParcels, 8, impl.MaxHeavy, func(list []impl.Parcel, _ *rand.Rand) {
		is(t, show("read", list), show(list, impl.OK), pack2(impl.ReadParcels(impl.ParcelsText(list)))...)
	})
}

func TestTextsOfNoParcels(t *testing.T) {
	texts := []string{
		" ", ":", "2", "2:", ":5", "2:5:1", "2:5 ", " 2:5", "2:5  0:3", "2:5\t0:3", "2:5,0:3", "2:5\n", "2:5\n0:3", "2 :5", "2: 5", "2;5", "2x5",
		"02:5", "2:05", "00:5", "+2:5", "2:+5", "-2:5", "2:-5", "-0:5", "2:5.0", "2:5e1", "2:1_0", "0x2:5", "\x00",
		"9:1", "10:1", "0:0", "0:5001", "258:5", "-254:5", "65538:5", "2:65541", "2:-65531", "99999999999999999999:5", "2:18446744073709551621",
		"1:1 1:1 1:1 1:1 1:1 1:1 1:1 1:1 1:1 1:1 1:1", "1:1 9:1", "9:1 1:1", "\u0662:5", "2:\uff15", "2\uff1a5", "2:5\u00a00:3", "\xff",
		strings.Repeat("1:1 ", 250000), strings.Repeat("9", 1000000), strings.Repeat(" ", 1000000), strings.Repeat(":", 1000000),
	}
	for _, text := range texts {
		is(t, show("text", text[:min(20, len(text))]), "[] 5", pack2(impl.ReadParcels(text))...)
	}
}
