package tests

import (
	"math/rand/v2"
	"slices"
	"testing"

	"loop.example/g01366/impl"
)

// scans returns the scans that are told by two numbers each: a station and an hour.
func scans(numbers ...int) []impl.Scan {
	list := []impl.Scan{}
	for scan := range slices.Chunk(numbers, 2) {
		list = append(list, at(scan[0], scan[1]))
	}
	return list
}

func TestSortScans(t *testing.T) {
	n := readNet(t, netText)
	for _, c := range []struct {
		list []impl.Scan
		want string
	}{
		{nil, "[]"}, {scans(1, 5), "[{1 5}]"}, {scans(0, 2, 0, 1), "[{0 1} {0 2}]"}, {scans(0, 1, 0, 2), "[{0 1} {0 2}]"}, {scans(2, 1, 0, 2), "[{2 1} {0 2}]"}, {scans(0, 2, 2, 1), "[{2 1} {0 2}]"}, {scans(2, 1, 0, 1, 1, 1), "[{0 1} {1 1} {2 1}]"}, {scans(2, 10, 0, 0), "[{0 0} {2 10}]"},
		{scans(1, 1, 1, 1, 0, 1), "[{0 1} {1 1} {1 1}]"}, {scans(2, 300, 2, 0, 1, 300, 1, 0), "[{1 0} {2 0} {1 300} {2 300}]"}, {scans(0, 12, 0, 11, 0, 10, 0, 9, 0, 8, 0, 7, 0, 6, 0, 5, 0, 4, 0, 3, 0, 2, 0, 1), "[{0 1} {0 2} {0 3} {0 4} {0 5} {0 6} {0 7} {0 8} {0 9} {0 10} {0 11} {0 12}]"},
	} {
		is(t, show("sorted", c.list), c.want+" 0", pack2(impl.SortScans(n, c.list))...)
	}
	littleGrid.each(func(n impl.Net, source *rand.Rand) {
		list := []impl.Scan{}
		for range source.IntN(13) {
			list = append(list, someScan(source, n, 9))
		}
		want := []impl.Scan{}
		for hour := range 10 {
			for station := range int(n.Stations) {
				for _, s := range list {
					if s == at(station, hour) {
						want = append(want, s)
					}
				}
			}
		}
		is(t, show("sorted", list), show(want, impl.OK), pack2(impl.SortScans(n, list))...)
	})
}

func TestScansAtTheEdges(t *testing.T) {
	n := readNet(t, netText)
	round := readNet(t, "2 1\n0-1 2-3\n1-0 2-3\n")
	for _, c := range []struct {
		net                   impl.Net
		list                  []impl.Scan
		right, bad, out, most string
	}{
		{n, nil, "true", "0 6", "[]", "[]"}, {n, scans(0, 0), "true", "0 6", "[0]", "[0]"}, {n, scans(2, 300), "true", "0 6", "[0]", "[0]"},
		{n, scans(0, 0, 1, 3), "true", "0 6", "[0 1]", "[0 1]"}, {n, scans(0, 0, 1, 7), "true", "0 6", "[0 1]", "[0 1]"}, {n, scans(0, 0, 1, 2), "false", "1 0", "[0 1]", "[0]"}, {n, scans(0, 0, 1, 8), "false", "1 0", "[0 1]", "[0]"}, {n, scans(1, 3, 0, 0), "false", "1 0", "[0 1]", "[0]"},
		// No scan is gone to from the same one.
		{n, scans(0, 0, 0, 0), "false", "1 0", "[0 1]", "[0]"}, {n, scans(0, 0, 1, 3, 1, 3), "false", "2 0", "[1 2]", "[0 1]"}, {n, scans(0, 0, 1, 3, 1, 4), "false", "2 0", "[1 2]", "[0 1]"},
		{n, scans(0, 0, 1, 8, 2, 10), "false", "1 0", "[0 1]", "[0 2]"}, {n, scans(0, 0, 1, 5, 2, 7), "true", "0 6", "[0 1 2]", "[0 1 2]"}, {n, scans(0, 0, 1, 5, 2, 9), "false", "2 0", "[1 2]", "[0 1]"}, {n, scans(0, 0, 2, 10, 1, 5), "false", "2 0", "[1 2]", "[0 1]"}, {n, scans(2, 9, 1, 8, 2, 10), "false", "1 0", "[0]", "[1 2]"}, {n, scans(2, 9, 0, 0, 1, 5, 2, 6), "false", "1 0", "[0]", "[1 2 3]"},
		// Two that are wrong, and of several lists the first one.
		{n, scans(0, 0, 1, 9, 1, 5, 2, 6), "false", "1 0", "[1]", "[0 2 3]"}, {n, scans(0, 0, 1, 9, 2, 0, 2, 10), "false", "1 0", "[]", "[0 3]"}, {n, scans(1, 9, 0, 0, 2, 10), "false", "1 0", "[0 1]", "[0 2]"}, {n, scans(0, 0, 0, 1, 1, 4, 1, 5, 2, 6), "false", "1 0", "[]", "[0 2 4]"}, {n, scans(0, 1, 0, 0, 1, 3, 2, 4), "false", "1 0", "[0]", "[1 2 3]"},
		{round, scans(0, 0, 1, 2, 0, 4, 1, 6, 0, 8, 1, 10, 0, 12, 1, 14, 0, 16, 1, 18, 0, 20, 1, 22), "true", "0 6", "[0 1 2 3 4 5 6 7 8 9 10 11]", "[0 1 2 3 4 5 6 7 8 9 10 11]"},
		{round, scans(0, 0, 1, 4, 0, 8, 1, 13), "false", "3 0", "[2 3]", "[0 1 2]"}, {round, scans(0, 0, 1, 4, 0, 8, 1, 12, 1, 12), "false", "4 0", "[3 4]", "[0 1 2 3]"}, {round, scans(0, 0, 1, 1, 0, 5), "false", "1 0", "[0 1]", "[0 2]"}, {round, scans(0, 292, 1, 296, 0, 300), "true", "0 6", "[0 1 2]", "[0 1 2]"}, {round, scans(0, 300, 1, 300, 0, 300), "false", "1 0", "[]", "[0]"},
	} {
		is(t, show("right", c.net, c.list), c.right+" 0", pack2(impl.CheckScans(c.net, c.list))...)
		is(t, show("first bad", c.net, c.list), c.bad, pack2(impl.FirstBadScan(c.net, c.list))...)
		is(t, show("false", c.net, c.list), c.out+" 0", pack2(impl.FalseScans(c.net, c.list))...)
		is(t, show("most", c.net, c.list), c.most+" 0", pack2(impl.MostScans(c.net, c.list))...)
	}
}

// checkScans checks all that is told of scans.
func checkScans(t *testing.T, n impl.Net, list []impl.Scan) (right bool) {
	t.Helper()
	can := goings(n, list)
	all := []int64{}
	for i := range list {
		all = append(all, int64(i))
	}
	bad := badByTrying(can, all)
	is(t, show("right", n, list), show(bad < 0, impl.OK), pack2(impl.CheckScans(n, list))...)
	want := show(bad, impl.OK)
	if bad < 0 {
		want = show(0, impl.ErrNotFound)
	}
	is(t, show("first bad", n, list), want, pack2(impl.FirstBadScan(n, list))...)
	is(t, show("false", n, list), show(falseByTrying(can), impl.OK), pack2(impl.FalseScans(n, list))...)
	is(t, show("most", n, list), show(mostScansByTrying(can), impl.OK), pack2(impl.MostScans(n, list))...)
	return bad < 0
}

func TestScansAgainstAll(t *testing.T) {
	rights, longs := map[bool]int{}, map[int]int{}
	littleGrid.each(func(n impl.Net, source *rand.Rand) {
		for i := range 5 {
			list := someScans(source, n, []int{5, impl.MaxScans}[i%2], impl.MaxHour/2)
			rights[checkScans(t, n, list)]++
			longs[len(list)]++
		}
	})
	few := grid{cases: 30, stations: 8, lanes: impl.MaxLanes, stay: 6, takes: 20}
	few.each(func(n impl.Net, source *rand.Rand) {
		list := someScans(source, n, impl.MaxScans, impl.MaxHour/2)
		rights[checkScans(t, n, list)]++
		longs[len(list)]++
	})
	if rights[true] < 300 || rights[false] < 300 || longs[impl.MaxScans] < 100 {
		t.Errorf("the scans are right, or not, %v times, and have the lengths %v", rights, longs)
	}
}

func TestIsLateAtTheEdges(t *testing.T) {
	n := readNet(t, netText)
	round := readNet(t, "2 1\n0-1 2-3\n1-0 2-3\n")
	for _, c := range []struct {
		net               impl.Net
		list              []impl.Scan
		station, promised int64
		want              string
	}{
		{n, scans(0, 0), 2, 3, "true"}, {n, scans(0, 0), 2, 4, "false"}, {n, scans(0, 0), 2, 300, "false"}, {n, scans(0, 0), 1, 2, "true"}, {n, scans(0, 0), 1, 3, "false"}, {n, scans(1, 9), 2, 9, "true"}, {n, scans(1, 9), 2, 10, "false"},
		// It has been scanned there in time, with the last scan or before.
		{n, scans(0, 5), 0, 4, "true"}, {n, scans(0, 5), 0, 5, "false"}, {n, scans(0, 5), 0, 300, "false"}, {n, scans(0, 5, 1, 8), 0, 5, "false"}, {n, scans(0, 5, 1, 8), 0, 4, "true"}, {n, scans(0, 0, 1, 5, 2, 7), 1, 4, "true"}, {n, scans(0, 0, 1, 5, 2, 7), 1, 5, "false"}, {n, scans(0, 0, 1, 5, 2, 7), 1, 300, "false"}, {n, scans(0, 0, 1, 5, 2, 7), 2, 6, "true"}, {n, scans(0, 0, 1, 5, 2, 7), 2, 7, "false"},
		// It goes on from the last scan, not from one before, and not to where no lane leads.
		{n, scans(0, 0, 1, 7), 2, 7, "true"}, {n, scans(0, 0, 1, 7), 2, 8, "false"}, {n, scans(1, 9), 0, 300, "true"}, {n, scans(2, 9), 1, 300, "true"}, {n, scans(0, 0, 2, 10), 1, 300, "true"}, {n, scans(0, 0, 2, 10), 1, 10, "true"},
		{n, scans(0, 298), 1, 300, "true"}, {n, scans(0, 297), 1, 300, "false"}, {n, scans(0, 297), 1, 299, "true"}, {n, scans(0, 297), 2, 300, "true"}, {n, scans(0, 296), 2, 300, "false"}, {n, scans(2, 300), 2, 300, "false"}, {n, scans(2, 300), 2, 299, "true"}, {n, scans(2, 0), 2, 0, "false"}, {n, scans(2, 1), 2, 0, "true"},
		{round, scans(0, 0, 1, 4), 0, 0, "false"}, {round, scans(1, 0, 0, 4), 1, 0, "false"}, {round, scans(1, 1, 0, 5), 1, 0, "true"}, {round, scans(0, 0, 1, 4, 0, 8, 1, 12), 0, 3, "false"}, {round, scans(0, 4, 1, 8, 0, 12), 0, 3, "true"}, {round, scans(0, 4, 1, 8, 0, 12), 1, 7, "true"}, {round, scans(0, 4, 1, 8, 0, 12), 1, 8, "false"}, {readNet(t, "1 0\n"), scans(0, 7), 0, 6, "true"}, {readNet(t, "1 0\n"), scans(0, 7), 0, 7, "false"},
	} {
		is(t, show("late", c.net, c.list, c.station, c.promised), c.want+" 0", pack2(impl.IsLate(c.net, c.list, c.station, c.promised))...)
	}
}

func TestIsLateAgainstAll(t *testing.T) {
	told := map[string]int{}
	littleGrid.each(func(n impl.Net, source *rand.Rand) {
		for range 6 {
			list := someScans(source, n, 4, impl.MaxHour)
			all := []int64{}
			for i := range list {
				all = append(all, int64(i))
			}
			station, promised := source.IntN(int(n.Stations)), source.IntN(impl.MaxHour+1)
			if len(list) > 0 && source.IntN(3) > 0 {
				promised = min(impl.MaxHour, int(list[source.IntN(len(list))].Hour)+source.IntN(12))
			}
			want := show(false, impl.ErrState)
			if len(list) > 0 && badByTrying(goings(n, list), all) < 0 {
				want = show(isLateByTrying(n, list, station, promised), impl.OK)
			}
			told[want]++
			is(t, show("late", n, list, station, promised), want, pack2(impl.IsLate(n, list, int64(station), int64(promised)))...)
		}
	})
	if told["true 0"] < 200 || told["false 0"] < 200 || told["false 4"] < 200 {
		t.Errorf("what is told of late parcels is %v", told)
	}
}

// checkScanErrors checks that all functions with scans have an error.
func checkScanErrors(t *testing.T, name string, n impl.Net, list []impl.Scan, code int64) {
	t.Helper()
	is(t, show(name, "sorted"), show([]impl.Scan{}, code), pack2(impl.SortScans(n, list))...)
	is(t, show(name, "right"), show(false, code), pack2(impl.CheckScans(n, list))...)
	is(t, show(name, "first bad"), show(0, code), pack2(impl.FirstBadScan(n, list))...)
	is(t, show(name, "false"), show([]int64{}, code), pack2(impl.FalseScans(n, list))...)
	is(t, show(name, "most"), show([]int64{}, code), pack2(impl.MostScans(n, list))...)
	is(t, show(name, "late"), show(false, code), pack2(impl.IsLate(n, list, 1, 5))...)
}

// Nets are checked before all else, stations and hours before the number of scans, and this before whether they are right.
func TestErrorsOfScans(t *testing.T) {
	tooMany := [][]impl.Scan{make([]impl.Scan, 13), make([]impl.Scan, 1000000), slices.Repeat(scans(0, 0, 1, 3), 7)}
	wrong := [][]impl.Scan{}
	for _, s := range noScans {
		wrong = append(wrong, []impl.Scan{s}, []impl.Scan{at(0, 0), s}, []impl.Scan{s, at(0, 0)}, slices.Repeat([]impl.Scan{s}, 13), append(make([]impl.Scan, 12), s), append(make([]impl.Scan, 999999), s))
	}
	for i, n := range invalidNets(t) {
		for k, list := range slices.Concat([][]impl.Scan{nil, scans(0, 0), scans(1, 3, 0, 0)}, wrong[:6], tooMany[:1]) {
			checkScanErrors(t, show("invalid net", i, k), n, list, impl.ErrInvalid)
		}
		is(t, show("late", i), "false 1", pack2(impl.IsLate(n, scans(0, 0), -1, 5))...)
		is(t, show("late", i), "false 1", pack2(impl.IsLate(n, scans(0, 0), 0, 301))...)
	}
	n := readNet(t, netText)
	for i, list := range wrong {
		checkScanErrors(t, show("out of range", i), n, list, impl.ErrRange)
	}
	for i, list := range tooMany {
		checkScanErrors(t, show("too many", i), n, list, impl.ErrLimit)
	}
	for i, list := range append([][]impl.Scan{nil, {}, scans(0, 0), scans(1, 3, 0, 0)}, tooMany...) {
		for _, station := range noStations {
			is(t, show("late", i, station), "false 2", pack2(impl.IsLate(n, list, station, 5))...)
		}
		for _, hour := range noHours {
			is(t, show("late", i, hour), "false 2", pack2(impl.IsLate(n, list, 1, hour))...)
		}
	}
	for i, list := range [][]impl.Scan{nil, {}, scans(1, 3, 0, 0), scans(0, 0, 0, 0), scans(0, 0, 1, 3, 1, 3), scans(0, 0, 1, 8), scans(0, 0, 1, 8, 2, 10), make([]impl.Scan, 12)} {
		for _, promised := range []int64{0, 5, 300} {
			is(t, show("late", i, promised), "false 4", pack2(impl.IsLate(n, list, 0, promised))...)
		}
	}
}
