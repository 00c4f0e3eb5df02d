package tests

import (
	"math/rand/v2"
	"slices"
	"strings"
	"testing"

	"loop.example/g01366/impl"
)

// netText is the text of the net of the document's example.
const netText = "3 2\n0-1 3-5\n1-2 1-1\n0-2 10-10\n"

// Nets in which a parcel goes to and fro in single hours, and in which each lane takes as long as can be.
const (
	toAndFro = "2 0\n0-1 1-1\n1-0 1-1\n"
	slowNet  = "2 40\n0-1 40-40\n1-0 40-40\n"
)

// withLane returns the net of the example with one more lane.
func withLane(t *testing.T, l impl.Lane) impl.Net {
	n := readNet(t, netText)
	n.Lanes = append(n.Lanes, l)
	return n
}

// invalidNets returns nets that are not valid.
func invalidNets(t *testing.T) []impl.Net {
	fine := impl.Lane{From: 0, To: 1, Least: 1, Most: 1}
	list := []impl.Net{
		{}, {Stations: -1}, {Stations: 9}, {Stations: -128}, {Stations: 127}, {Stations: 1, Stay: -1}, {Stations: 1, Stay: 41}, {Stations: 1, Stay: -32768}, {Stations: 1, Stay: 32767},
		{Stations: 2, Lanes: slices.Repeat([]impl.Lane{fine}, 21)}, {Stations: 2, Lanes: slices.Repeat([]impl.Lane{fine}, 1000000)},
		{Stations: 0, Lanes: []impl.Lane{{}}}, {Stations: 1, Lanes: []impl.Lane{fine}}, {Stations: 1, Lanes: []impl.Lane{{Least: 1, Most: 1}}}, {Stations: 2, Lanes: []impl.Lane{{From: 0, To: 1}, fine}},
	}
	for _, l := range []impl.Lane{
		{From: -1, To: 1, Least: 1, Most: 1}, {From: 3, To: 1, Least: 1, Most: 1}, {From: -128, To: 1, Least: 1, Most: 1}, {From: 127, To: 1, Least: 1, Most: 1},
		{From: 1, To: -1, Least: 1, Most: 1}, {From: 1, To: 3, Least: 1, Most: 1}, {From: 1, To: -128, Least: 1, Most: 1}, {From: 1, To: 127, Least: 1, Most: 1},
		{From: 0, To: 0, Least: 1, Most: 1}, {From: 2, To: 2, Least: 1, Most: 1}, {From: 0, To: 1}, {From: 0, To: 1, Least: 0, Most: 1}, {From: 0, To: 1, Least: -1, Most: 1}, {From: 0, To: 1, Least: -32768, Most: 5},
		{From: 0, To: 1, Least: 2, Most: 1}, {From: 0, To: 1, Least: 1, Most: 0}, {From: 0, To: 1, Least: 1, Most: 41}, {From: 0, To: 1, Least: 41, Most: 41}, {From: 0, To: 1, Least: 1, Most: 32767}, {From: 0, To: 1, Least: 32767, Most: 32767},
	} {
		list = append(list, withLane(t, l))
	}
	return list
}

// noStations and noHours are numbers that are no station of the example's net, and no hour.
var (
	noStations = []int64{leastInt, -1 << 32, -256, -1, 3, 8, 256, 1 << 32, mostInt}
	noHours    = []int64{leastInt, -1 << 32, -65536, -1, 301, 65536, 1 << 32, mostInt}
)

// noScans are no scans of the example's net.
var noScans = []impl.Scan{at(-1, 0), at(3, 0), at(-128, 0), at(127, 0), at(0, -1), at(0, 301), at(0, -32768), at(0, 32767), at(-1, -1), at(8, 301)}

func TestLimitsOfNets(t *testing.T) {
	is(t, "limits", "8 20 300 12 40", impl.MaxStations, impl.MaxLanes, impl.MaxHour, impl.MaxScans, impl.MaxTakes)
}

func TestExampleOfTracking(t *testing.T) {
	n := readNet(t, netText)
	is(t, "net", "{3 2 [{0 1 3 5} {1 2 1 1} {0 2 10 10}]} true", n, impl.ValidNet(n))
	is(t, "at 1", "[3 4 5 6 7] 0", pack2(impl.ArrivalsAt(n, at(0, 0), 1))...)
	is(t, "at 2", "[4 5 6 7 8 9 10 11 12] 0", pack2(impl.ArrivalsAt(n, at(0, 0), 2))...)
	is(t, "by 1", "[[0 0] [3 7] [4 10]] 0", pack2(impl.RouteTimes(n, []int64{0, 1, 2}, 0))...)
	is(t, "by the last lane", "[[0 0] [10 12]] 0", pack2(impl.RouteTimes(n, []int64{0, 2}, 0))...)
	is(t, "at 2 at the hour 11", "[0 2] 0", pack2(impl.FewestLanes(n, at(0, 0), at(2, 11)))...)
	is(t, "at 2 at the hour 11 by", "[] 0", pack2(impl.MustPass(n, at(0, 0), at(2, 11)))...)
	is(t, "at 2 at the hour 9 by", "[1] 0", pack2(impl.MustPass(n, at(0, 0), at(2, 9)))...)
	is(t, "at the hour 4", "[1 2] [0 2] 0", pack3(impl.WhereAt(n, at(0, 0), 4))...)
	is(t, "at 1 at the hour 8", "false 0", pack2(impl.CheckScans(n, []impl.Scan{at(0, 0), at(1, 8)}))...)
	is(t, "at 1 at the hour 8", "1 0", pack2(impl.FirstBadScan(n, []impl.Scan{at(0, 0), at(1, 8)}))...)
	is(t, "at 1 at the hour 7", "true 0", pack2(impl.CheckScans(n, []impl.Scan{at(0, 0), at(1, 7)}))...)
}

func TestValidNet(t *testing.T) {
	for i, n := range []impl.Net{
		{Stations: 1}, {Stations: 8}, {Stations: 1, Stay: 40, Lanes: []impl.Lane{}}, {Stations: 2, Lanes: []impl.Lane{{From: 0, To: 1, Least: 1, Most: 1}, {From: 1, To: 0, Least: 40, Most: 40}}},
		{Stations: 8, Stay: 40, Lanes: slices.Repeat([]impl.Lane{{From: 7, To: 6, Least: 1, Most: 40}}, 20)}, withLane(t, impl.Lane{From: 2, To: 0, Least: 40, Most: 40}), withLane(t, impl.Lane{From: 0, To: 1, Least: 3, Most: 5}),
	} {
		if !impl.ValidNet(n) {
			t.Errorf("the net %d is not valid", i)
		}
	}
	for i, n := range invalidNets(t) {
		if impl.ValidNet(n) {
			t.Errorf("the invalid net %d is valid", i)
		}
	}
}

func TestSameNet(t *testing.T) {
	lane := impl.Lane{From: 1, To: 2, Least: 3, Most: 4}
	nets := []impl.Net{
		{}, {Stations: 1}, {Stations: -1}, {Stay: 1}, {Stay: -1}, {Lanes: []impl.Lane{{}}}, {Lanes: []impl.Lane{{}, {}}}, {Lanes: []impl.Lane{lane}}, {Lanes: []impl.Lane{lane, {}}}, {Lanes: []impl.Lane{{}, lane}},
		{Lanes: []impl.Lane{{From: 2, To: 2, Least: 3, Most: 4}}}, {Lanes: []impl.Lane{{From: 1, To: 1, Least: 3, Most: 4}}}, {Lanes: []impl.Lane{{From: 1, To: 2, Least: 4, Most: 4}}}, {Lanes: []impl.Lane{{From: 1, To: 2, Least: 3, Most: 3}}},
		readNet(t, netText), withLane(t, lane), {Stations: 9, Lanes: make([]impl.Lane, 1000000)},
	}
	for i, a := range nets {
		for k, b := range nets {
			same := impl.Net{Stations: b.Stations, Stay: b.Stay, Lanes: slices.Clone(b.Lanes)}
			is(t, show("same", i, k), show(i == k), impl.SameNet(a, same))
		}
	}
	is(t, "nil and empty", "true true", impl.SameNet(impl.Net{}, impl.Net{Lanes: []impl.Lane{}}), impl.SameNet(impl.Net{Lanes: []impl.Lane{}}, impl.Net{}))
}

func TestLanesFrom(t *testing.T) {
	n := readNet(t, netText)
	for station, want := range []string{"[0 2] 0", "[1] 0", "[] 0"} {
		is(t, show("lanes from", station), want, pack2(impl.LanesFrom(n, int64(station)))...)
	}
	most := impl.Net{Stations: 8, Lanes: slices.Repeat([]impl.Lane{{From: 7, To: 0, Least: 1, Most: 1}, {From: 0, To: 7, Least: 1, Most: 1}}, 10)}
	is(t, "from 7", "[0 2 4 6 8 10 12 14 16 18] 0", pack2(impl.LanesFrom(most, 7))...)
	is(t, "from 0", "[1 3 5 7 9 11 13 15 17 19] 0", pack2(impl.LanesFrom(most, 0))...)
	is(t, "from 3", "[] 0", pack2(impl.LanesFrom(most, 3))...)
	is(t, "from the only one", "[] 0", pack2(impl.LanesFrom(impl.Net{Stations: 1}, 0))...)
	is(t, "from none", "[] 2", pack2(impl.LanesFrom(impl.Net{Stations: 1}, 1))...)
}

func TestEarliestAt(t *testing.T) {
	n := readNet(t, netText)
	for _, c := range []struct {
		net  impl.Net
		a    impl.Scan
		want string
	}{
		{n, at(0, 0), "[0 3 4]"}, {n, at(0, 100), "[100 103 104]"}, {n, at(1, 5), "[-1 5 6]"}, {n, at(2, 5), "[-1 -1 5]"}, {n, at(0, 296), "[296 299 300]"}, {n, at(0, 297), "[297 300 -1]"}, {n, at(0, 298), "[298 -1 -1]"}, {n, at(0, 300), "[300 -1 -1]"}, {n, at(2, 300), "[-1 -1 300]"},
		{readNet(t, toAndFro), at(0, 0), "[0 1]"}, {readNet(t, toAndFro), at(1, 63), "[64 63]"}, {readNet(t, slowNet), at(0, 0), "[0 40]"}, {readNet(t, slowNet), at(0, 260), "[260 300]"}, {readNet(t, slowNet), at(0, 261), "[261 -1]"}, {readNet(t, "1 40\n"), at(0, 7), "[7]"},
		// Two lanes can be earlier than one, and a lane that takes less can be another one than the first.
		{readNet(t, "3 0\n0-2 9-9\n0-1 3-9\n1-2 3-9\n0-2 8-8\n"), at(0, 0), "[0 3 6]"}, {readNet(t, "3 5\n0-2 7-7\n0-1 1-1\n0-2 3-9\n1-2 3-9\n"), at(0, 10), "[10 11 13]"},
	} {
		is(t, show("earliest", c.net, c.a), c.want+" 0", pack2(impl.EarliestAt(c.net, c.a))...)
	}
}

func TestRouteTimes(t *testing.T) {
	n := readNet(t, netText)
	both := readNet(t, "2 1\n0-1 5-7\n0-1 3-4\n0-1 6-20\n1-0 1-2\n")
	twelve := []int64{0, 1, 0, 1, 0, 1, 0, 1, 0, 1, 0, 1}
	for _, c := range []struct {
		net   impl.Net
		route []int64
		hour  int64
		want  string
	}{
		{n, nil, 0, "[] 0"}, {n, nil, 300, "[] 0"}, {n, []int64{1}, 7, "[[7 7]] 0"}, {n, []int64{2}, 300, "[[300 300]] 0"}, {n, []int64{0, 1}, 10, "[[10 10] [13 17]] 0"}, {n, []int64{1, 2}, 10, "[[10 10] [11 13]] 0"},
		{n, []int64{1, 0}, 0, "[] 6"}, {n, []int64{0, 0}, 0, "[] 6"}, {n, []int64{2, 1}, 0, "[] 6"}, {n, []int64{0, 1, 2, 0}, 0, "[] 6"}, {n, []int64{0, 1, 1}, 0, "[] 6"},
		// Latest hours may be greater than MaxHour, and earliest ones may not.
		{n, []int64{0, 1}, 297, "[[297 297] [300 304]] 0"}, {n, []int64{0, 1}, 298, "[] 6"}, {n, []int64{0, 1, 2}, 296, "[[296 296] [299 303] [300 306]] 0"}, {n, []int64{0, 1, 2}, 297, "[] 6"},
		{both, []int64{0, 1}, 0, "[[0 0] [3 21]] 0"}, {both, []int64{0, 1, 0, 1}, 2, "[[2 2] [5 23] [6 26] [9 47]] 0"}, {readNet(t, toAndFro), twelve, 289, "[[289 289] [290 290] [291 291] [292 292] [293 293] [294 294] [295 295] [296 296] [297 297] [298 298] [299 299] [300 300]] 0"},
		{readNet(t, toAndFro), twelve, 290, "[] 6"}, {readNet(t, "2 40\n0-1 1-40\n1-0 1-40\n"), twelve, 289, "[[289 289] [290 369] [291 449] [292 529] [293 609] [294 689] [295 769] [296 849] [297 929] [298 1009] [299 1089] [300 1169]] 0"},
		{readNet(t, slowNet), twelve[:8], 20, "[[20 20] [60 100] [100 180] [140 260] [180 340] [220 420] [260 500] [300 580]] 0"}, {readNet(t, slowNet), twelve[:8], 21, "[] 6"}, {readNet(t, slowNet), twelve[:9], 0, "[] 6"},
	} {
		is(t, show("route", c.net, c.route, c.hour), c.want, pack2(impl.RouteTimes(c.net, c.route, c.hour))...)
	}
}

func TestRouteTimesAgainstAll(t *testing.T) {
	codes := map[int64]int{}
	littleGrid.each(func(n impl.Net, source *rand.Rand) {
		for i := range 6 {
			route, hour := []int64{}, impl.MaxHour-source.IntN([]int{12, impl.MaxHour + 1}[i%2])
			for _, s := range trip(source, n, someScan(source, n, impl.MaxHour), func(int, int, int) {}) {
				route = append(route, int64(s.Station))
			}
			route = route[:min(len(route), source.IntN(9))]
			want, ok := timesByTrying(n, route, hour)
			code := int64(impl.OK)
			if !ok {
				code = impl.ErrNotFound
			}
			codes[code]++
			is(t, show("route", n, route, hour), show(want, code), pack2(impl.RouteTimes(n, route, int64(hour)))...)
		}
	})
	if codes[impl.OK] < 500 || codes[impl.ErrNotFound] < 200 {
		t.Errorf("the codes of routes are %v", codes)
	}
}

func TestArrivalsAtTheEdges(t *testing.T) {
	n, slow := readNet(t, netText), readNet(t, slowNet)
	for _, c := range []struct {
		net     impl.Net
		a       impl.Scan
		station int64
		want    string
	}{
		// At its own station it arrives only by lanes.
		{n, at(0, 0), 0, "[]"}, {n, at(2, 0), 2, "[]"}, {n, at(2, 0), 0, "[]"}, {n, at(1, 0), 2, "[1 2 3]"}, {readNet(t, "1 5\n"), at(0, 9), 0, "[]"},
		{readNet(t, "2 0\n0-1 2-2\n1-0 3-3\n"), at(0, 288), 0, "[293 298]"}, {readNet(t, "2 0\n0-1 2-2\n1-0 3-3\n"), at(0, 288), 1, "[290 295 300]"}, {readNet(t, "2 1\n0-1 2-2\n1-0 3-3\n"), at(0, 290), 0, "[295 296 297 300]"},
		// Hours after MaxHour are not looked at.
		{n, at(0, 293), 1, "[296 297 298 299 300]"}, {n, at(0, 294), 1, "[297 298 299 300]"}, {n, at(0, 297), 1, "[300]"}, {n, at(0, 298), 1, "[]"}, {n, at(0, 300), 1, "[]"}, {n, at(0, 290), 2, "[294 295 296 297 298 299 300]"}, {n, at(0, 296), 2, "[300]"}, {n, at(0, 297), 2, "[]"},
		// It stays for 0 to Stay hours, and is on a lane for Least to Most.
		{readNet(t, "2 0\n0-1 40-40\n"), at(0, 0), 1, "[40]"}, {readNet(t, "2 3\n0-1 40-40\n"), at(0, 23), 1, "[63 64 65 66]"}, {readNet(t, "2 0\n0-1 2-5\n"), at(0, 60), 1, "[62 63 64 65]"}, {readNet(t, "2 0\n0-1 1-1\n0-1 4-4\n"), at(0, 60), 1, "[61 64]"}, {readNet(t, "2 1\n0-1 1-1\n0-1 4-4\n"), at(0, 124), 1, "[125 126 128 129]"},
		{readNet(t, "2 0\n0-1 40-40\n"), at(0, 24), 1, "[64]"}, {readNet(t, "2 0\n0-1 40-40\n"), at(0, 87), 1, "[127]"}, {readNet(t, "2 0\n0-1 40-40\n"), at(0, 152), 1, "[192]"}, {readNet(t, "2 0\n0-1 40-40\n"), at(0, 216), 1, "[256]"}, {readNet(t, "2 0\n0-1 40-40\n"), at(0, 260), 1, "[300]"}, {readNet(t, "2 0\n0-1 40-40\n"), at(0, 261), 1, "[]"},
		{slow, at(0, 220), 1, "[260 261 262 263 264 265 266 267 268 269 270 271 272 273 274 275 276 277 278 279 280 281 282 283 284 285 286 287 288 289 290 291 292 293 294 295 296 297 298 299 300]"}, {slow, at(0, 220), 0, "[300]"}, {slow, at(0, 221), 0, "[]"},
	} {
		is(t, show("arrivals", c.net, c.a, c.station), c.want+" 0", pack2(impl.ArrivalsAt(c.net, c.a, c.station))...)
	}
	for start := range impl.MaxHour + 1 {
		even, odd := []int64{}, []int64{}
		for hour := start + 1; hour <= impl.MaxHour; hour++ {
			if (hour-start)%2 == 0 {
				even = append(even, int64(hour))
			} else {
				odd = append(odd, int64(hour))
			}
		}
		is(t, show("to and fro", start), show(even, impl.OK), pack2(impl.ArrivalsAt(readNet(t, toAndFro), at(0, start), 0))...)
		is(t, show("to and fro", start), show(odd, impl.OK), pack2(impl.ArrivalsAt(readNet(t, toAndFro), at(0, start), 1))...)
	}
}

func TestWhereAtTheEdges(t *testing.T) {
	n := readNet(t, netText)
	for _, c := range []struct {
		net  impl.Net
		a    impl.Scan
		hour int64
		want string
	}{
		// Before the scan it is nowhere, and from then on at its own station for Stay hours.
		{n, at(0, 5), 0, "[] []"}, {n, at(0, 5), 4, "[] []"}, {n, at(0, 5), 5, "[0] []"}, {n, at(0, 5), 6, "[0] [0 2]"}, {n, at(0, 5), 7, "[0] [0 2]"}, {n, at(0, 5), 8, "[1] [0 2]"}, {n, at(0, 5), 11, "[1 2] [0 2]"}, {n, at(0, 5), 12, "[1 2] [2]"}, {n, at(0, 5), 14, "[1 2] [2]"}, {n, at(0, 5), 15, "[2] [2]"}, {n, at(0, 5), 16, "[2] [2]"}, {n, at(0, 5), 17, "[2] []"}, {n, at(0, 5), 19, "[2] []"}, {n, at(0, 5), 20, "[] []"},
		// It stays no longer at a station from which no lane goes on.
		{n, at(2, 5), 5, "[2] []"}, {n, at(2, 5), 7, "[2] []"}, {n, at(2, 5), 8, "[] []"}, {readNet(t, "1 0\n"), at(0, 5), 5, "[0] []"}, {readNet(t, "1 0\n"), at(0, 5), 6, "[] []"}, {readNet(t, "1 40\n"), at(0, 5), 45, "[0] []"}, {readNet(t, "1 40\n"), at(0, 5), 46, "[] []"}, {readNet(t, "1 40\n"), at(0, 300), 300, "[0] []"}, {readNet(t, "1 40\n"), at(0, 260), 300, "[0] []"}, {readNet(t, "1 40\n"), at(0, 259), 300, "[] []"},
		// It is never on a lane of one hour, and on others between leaving and arriving.
		{readNet(t, toAndFro), at(0, 0), 0, "[0] []"}, {readNet(t, toAndFro), at(0, 0), 1, "[1] []"}, {readNet(t, toAndFro), at(0, 0), 300, "[0] []"}, {readNet(t, "2 3\n0-1 1-1\n"), at(0, 0), 2, "[0 1] []"}, {readNet(t, "2 3\n0-1 1-1\n"), at(0, 0), 7, "[1] []"}, {readNet(t, "2 3\n0-1 1-1\n"), at(0, 0), 8, "[] []"},
		{readNet(t, "2 0\n0-1 2-2\n"), at(0, 0), 0, "[0] []"}, {readNet(t, "2 0\n0-1 2-2\n"), at(0, 0), 1, "[] [0]"}, {readNet(t, "2 0\n0-1 2-2\n"), at(0, 0), 2, "[1] []"}, {readNet(t, "2 0\n0-1 1-2\n"), at(0, 0), 1, "[1] [0]"}, {readNet(t, "2 1\n0-1 2-2\n"), at(0, 0), 2, "[1] [0]"}, {readNet(t, "2 1\n0-1 2-2\n"), at(0, 0), 3, "[1] []"},
		{readNet(t, "2 0\n0-1 5-5\n0-1 5-5\n0-1 3-3\n1-0 4-4\n"), at(0, 10), 12, "[] [0 1 2]"}, {readNet(t, "2 0\n0-1 5-5\n0-1 5-5\n0-1 3-3\n1-0 4-4\n"), at(0, 10), 13, "[1] [0 1]"}, {readNet(t, "2 0\n0-1 5-5\n0-1 5-5\n0-1 3-3\n1-0 4-4\n"), at(0, 10), 14, "[] [0 1 3]"}, {readNet(t, "2 0\n0-1 5-5\n0-1 5-5\n0-1 3-3\n1-0 4-4\n"), at(0, 10), 15, "[1] [3]"},
		// It is on a lane also if it arrives after MaxHour.
		{n, at(0, 300), 300, "[0] []"}, {n, at(0, 299), 300, "[0] [0 2]"}, {n, at(0, 296), 300, "[1 2] [0 2]"}, {n, at(0, 292), 300, "[1 2] [2]"}, {n, at(0, 291), 300, "[1 2] [2]"}, {n, at(0, 288), 300, "[2] []"}, {readNet(t, "2 0\n0-1 40-40\n"), at(0, 261), 300, "[] [0]"}, {readNet(t, "2 0\n0-1 40-40\n"), at(0, 260), 300, "[1] []"}, {readNet(t, "2 0\n0-1 40-40\n"), at(0, 299), 300, "[] [0]"}, {readNet(t, "2 40\n0-1 40-40\n"), at(0, 221), 300, "[1] [0]"}, {readNet(t, "2 40\n0-1 40-40\n"), at(0, 220), 300, "[1] []"},
	} {
		is(t, show("where", c.net, c.a, c.hour), c.want+" 0", pack3(impl.WhereAt(c.net, c.a, c.hour))...)
	}
}

// checkLife checks all that is told of a parcel behind a scan.
func checkLife(t *testing.T, n impl.Net, a impl.Scan, hours []int) {
	t.Helper()
	all := lifeByTrying(n, a)
	is(t, show("earliest", n, a), show(all.earliest(n, a), impl.OK), pack2(impl.EarliestAt(n, a))...)
	for station := range int(n.Stations) {
		is(t, show("arrivals", n, a, station), show(all.hoursAt(station), impl.OK), pack2(impl.ArrivalsAt(n, a, int64(station)))...)
	}
	for _, hour := range hours {
		stations, lanes := all.where(hour)
		is(t, show("where", n, a, hour), show(stations, lanes, impl.OK), pack3(impl.WhereAt(n, a, int64(hour)))...)
	}
}

func TestTimesAgainstAll(t *testing.T) {
	littleGrid.each(func(n impl.Net, source *rand.Rand) {
		a := someScan(source, n, impl.MaxHour)
		hours := []int{}
		for hour := max(int(a.Hour)-2, 0); hour <= min(int(a.Hour)+20, impl.MaxHour); hour++ {
			hours = append(hours, hour)
		}
		checkLife(t, n, a, append(hours, source.IntN(impl.MaxHour+1), impl.MaxHour))
	})
	for _, g := range []grid{denseGrid, greatGrid} {
		g.each(func(n impl.Net, source *rand.Rand) {
			a := someScan(source, n, impl.MaxHour)
			hours := []int{int(a.Hour), impl.MaxHour}
			for range 20 {
				hours = append(hours, int(a.Hour)+source.IntN(impl.MaxHour-int(a.Hour)+1))
			}
			checkLife(t, n, a, hours)
		})
	}
}

func TestCanGoAgainstAll(t *testing.T) {
	littleGrid.each(func(n impl.Net, source *rand.Rand) {
		a := someScan(source, n, impl.MaxHour)
		all := lifeByTrying(n, a)
		for station := range int(n.Stations) {
			for hour := max(int(a.Hour)-3, 0); hour <= min(int(a.Hour)+15, impl.MaxHour); hour++ {
				is(t, show("can go", n, a, station, hour), show(all.goes(at(station, hour)), impl.OK), pack2(impl.CanGo(n, a, at(station, hour)))...)
			}
		}
	})
}

// P19: a parcel is in one of the places in which it can be.
func TestParcelsAreWhereTheyCanBe(t *testing.T) {
	for _, g := range []grid{littleGrid, denseGrid, greatGrid} {
		g.each(func(n impl.Net, source *rand.Rand) {
			a := someScan(source, n, impl.MaxHour)
			list := trip(source, n, a, func(hour, station, lane int) {
				if source.IntN(3) > 0 {
					return
				}
				stations, lanes, code := impl.WhereAt(n, a, int64(hour))
				is(t, show("code", n, a, hour), "0", code)
				if station >= 0 && !slices.Contains(stations, int64(station)) || lane >= 0 && !slices.Contains(lanes, int64(lane)) {
					t.Fatalf("in the net %v, behind %v, at the hour %d a parcel at the station %d, or on the lane %d, can be at %v and on %v", n, a, hour, station, lane, stations, lanes)
				}
			})
			for i := 0; i < len(list); i += impl.MaxScans - 1 {
				some := list[i:min(i+impl.MaxScans, len(list))]
				is(t, show("is right", n, some), "true 0", pack2(impl.CheckScans(n, some))...)
			}
		})
	}
}

func TestFewestLanesAtTheEdges(t *testing.T) {
	n := readNet(t, netText)
	// From 0 to 3 by 1 or by 2, and to 1 also by 2.
	both := readNet(t, "4 1\n0-2 2-2\n2-3 2-2\n0-1 3-3\n1-3 1-1\n2-1 1-1\n")
	for _, c := range []struct {
		net        impl.Net
		a, b       impl.Scan
		want, must string
	}{
		{n, at(0, 0), at(2, 9), "[0 1 2] 0", "[1] 0"}, {n, at(0, 0), at(2, 10), "[0 2] 0", "[] 0"}, {n, at(0, 0), at(2, 12), "[0 2] 0", "[] 0"}, {n, at(0, 0), at(2, 13), "[] 6", "[] 6"}, {n, at(0, 0), at(2, 3), "[] 6", "[] 6"}, {n, at(0, 0), at(1, 3), "[0 1] 0", "[] 0"}, {n, at(0, 0), at(1, 2), "[] 6", "[] 6"},
		// By no lane it does not arrive, nor backward in time.
		{n, at(0, 0), at(0, 0), "[] 6", "[] 6"}, {n, at(0, 0), at(0, 1), "[] 6", "[] 6"}, {n, at(0, 9), at(2, 0), "[] 6", "[] 6"}, {n, at(2, 0), at(0, 9), "[] 6", "[] 6"}, {readNet(t, "1 40\n"), at(0, 1), at(0, 2), "[] 6", "[] 6"},
		// Of several ways the first one as a list.
		{both, at(0, 0), at(3, 4), "[0 1 3] 0", "[] 0"}, {both, at(0, 0), at(3, 6), "[0 1 3] 0", "[] 0"}, {both, at(0, 0), at(3, 7), "[0 2 1 3] 0", "[1 2] 0"}, {both, at(0, 0), at(1, 3), "[0 1] 0", "[] 0"}, {both, at(0, 0), at(1, 5), "[0 2 1] 0", "[2] 0"}, {both, at(2, 0), at(3, 2), "[2 3] 0", "[] 0"}, {both, at(2, 0), at(3, 4), "[2 1 3] 0", "[1] 0"},
		// The hours of a way go on together: by 1 the parcel could arrive at 2 in time, but not go on to 3.
		{readNet(t, "4 0\n0-1 1-1\n1-3 1-1\n0-2 3-3\n2-3 3-3\n"), at(0, 0), at(3, 6), "[0 2 3] 0", "[2] 0"}, {readNet(t, "5 0\n0-1 1-1\n0-1 4-4\n0-2 2-2\n1-3 3-3\n2-3 2-2\n3-4 1-1\n"), at(0, 0), at(4, 5), "[0 1 3 4] 0", "[3] 0"}, {readNet(t, "5 0\n0-1 1-1\n0-1 5-5\n0-2 2-2\n1-3 4-4\n2-3 2-2\n3-4 1-1\n"), at(0, 0), at(4, 5), "[0 2 3 4] 0", "[2 3] 0"},
		// A way can come back to where it has been.
		{readNet(t, toAndFro), at(0, 0), at(0, 2), "[0 1 0] 0", "[1] 0"}, {readNet(t, toAndFro), at(0, 7), at(1, 12), "[0 1 0 1 0 1] 0", "[] 0"}, {readNet(t, toAndFro), at(0, 0), at(0, 1), "[] 6", "[] 6"}, {readNet(t, "3 0\n0-1 1-1\n1-0 1-1\n1-2 1-1\n"), at(0, 0), at(2, 6), "[0 1 0 1 0 1 2] 0", "[1] 0"},
		{readNet(t, "8 0\n0-7 1-1\n7-1 1-1\n1-6 1-1\n6-2 1-1\n2-5 1-1\n5-3 1-1\n3-4 1-1\n"), at(0, 293), at(4, 300), "[0 7 1 6 2 5 3 4] 0", "[1 2 3 5 6 7] 0"}, {readNet(t, slowNet), at(0, 220), at(0, 300), "[0 1 0] 0", "[1] 0"}, {readNet(t, slowNet), at(0, 260), at(1, 300), "[0 1] 0", "[] 0"}, {readNet(t, slowNet), at(0, 0), at(1, 80), "[0 1] 0", "[] 0"}, {readNet(t, slowNet), at(0, 0), at(1, 81), "[] 6", "[] 6"},
	} {
		is(t, show("way", c.net, c.a, c.b), c.want, pack2(impl.FewestLanes(c.net, c.a, c.b))...)
		is(t, show("must pass", c.net, c.a, c.b), c.must, pack2(impl.MustPass(c.net, c.a, c.b))...)
	}
	long := []int64{}
	for hour := range int64(impl.MaxHour + 1) {
		long = append(long, hour%2)
	}
	is(t, "the longest way", show(long, impl.OK), pack2(impl.FewestLanes(readNet(t, toAndFro), at(0, 0), at(0, 300)))...)
}

// P18: no way has fewer lanes, and of those with as many none comes before; what has to be passed is on each way.
func TestFewestLanesAgainstAll(t *testing.T) {
	found := 0
	littleGrid.each(func(n impl.Net, source *rand.Rand) {
		a := someScan(source, n, impl.MaxHour-7)
		all := lifeByTrying(n, a)
		for station := range int(n.Stations) {
			for later := range 8 {
				b := at(station, int(a.Hour)+later)
				if !all.goes(b) {
					is(t, show("way", n, a, b), "[] 6", pack2(impl.FewestLanes(n, a, b))...)
					is(t, show("must pass", n, a, b), "[] 6", pack2(impl.MustPass(n, a, b))...)
					continue
				}
				found++
				is(t, show("way", n, a, b), show(wayByTrying(n, a, b), impl.OK), pack2(impl.FewestLanes(n, a, b))...)
				is(t, show("must pass", n, a, b), show(mustByTrying(n, a, b), impl.OK), pack2(impl.MustPass(n, a, b))...)
			}
		}
	})
	if found < 1000 {
		t.Errorf("only %d ways are tried", found)
	}
}

func TestFewestLanesInGreatNets(t *testing.T) {
	codes := map[int64]int{}
	few := grid{cases: 150, stations: 8, lanes: 12, stay: 1, takes: 6}
	for _, g := range []grid{littleGrid, few, denseGrid, greatGrid} {
		g.each(func(n impl.Net, source *rand.Rand) {
			last := min(impl.MaxHour, 16*g.takes)
			a, b := someScan(source, n, last/2), someScan(source, n, last)
			way, code := impl.FewestLanes(n, a, b)
			must, mustCode := impl.MustPass(n, a, b)
			codes[code]++
			if !lifeByTrying(n, a).goes(b) {
				is(t, show("way", n, a, b), "[] 6 [] 6", way, code, must, mustCode)
				return
			}
			is(t, show("way", n, a, b), show(wayByLayers(n, a, b), impl.OK), way, code)
			is(t, show("must pass", n, a, b), show(mustByTrying(n, a, b), impl.OK), must, mustCode)
			for _, station := range must {
				if !slices.Contains(way, station) {
					t.Errorf("in the net %v, from %v to %v, the way %v does not pass %d", n, a, b, way, station)
				}
			}
		})
	}
	if codes[impl.OK] < 100 || codes[impl.ErrNotFound] < 100 {
		t.Errorf("the codes of ways are %v", codes)
	}
}

func TestNetTextIsRead(t *testing.T) {
	for _, text := range []string{netText, toAndFro, slowNet, "1 0\n", "8 40\n", "8 0\n7-0 40-40\n0-7 1-40\n", "2 1\n" + strings.Repeat("1-0 10-12\n", 20)} {
		is(t, "text", text, impl.NetText(readNet(t, text)))
	}
	is(t, "net", "{2 7 [{1 0 2 30} {0 1 1 1}]} 0", pack2(impl.ReadNet("2 7\n1-0 2-30\n0-1 1-1\n"))...)
	is(t, "net", "2 7\n1-0 2-30\n0-1 1-1\n", impl.NetText(impl.Net{Stations: 2, Stay: 7, Lanes: []impl.Lane{{From: 1, Least: 2, Most: 30}, {To: 1, Least: 1, Most: 1}}}))
	is(t, "no lanes", "{3 4 []} 0", pack2(impl.ReadNet("3 4\n"))...)
	for _, g := range []grid{littleGrid, denseGrid, greatGrid} {
		g.each(func(n impl.Net, _ *rand.Rand) {
			back, code := impl.ReadNet(impl.NetText(n))
			is(t, show("read", n), "0 true", code, impl.SameNet(back, n))
			is(t, show("read", n), show(n), back)
		})
	}
	for i, n := range invalidNets(t) {
		is(t, show("invalid net", i), "", impl.NetText(n))
	}
}

func TestTextsOfNoNets(t *testing.T) {
	texts := []string{
		"", "\n", "3", "3 2", "3\n", "3 \n", " 2\n", "3  2\n", " 3 2\n", "3 2 \n", "3 2\n\n", "\n3 2\n", "3 2 1\n", "3-2\n", "3,2\n", "3\t2\n", "x\n", "x 2\n", "3 x\n", "3 2\r\n", "3 2\n0-1 3-5", "3 2\n0-1 3-5\n\n", "3 2\n\n0-1 3-5\n", "3 2\n0-1 3-5\n0-1 3-5",
		"3 2\n0-1\n", "3 2\n0 1 3 5\n", "3 2\n0-1 3\n", "3 2\n0 3-5\n", "3 2\n0-1-3-5\n", "3 2\n0-1  3-5\n", "3 2\n0-1 3-5 \n", "3 2\n 0-1 3-5\n", "3 2\n0-1 3-5 1\n", "3 2\n-1 3-5\n", "3 2\n0- 3-5\n", "3 2\n0-1 -5\n", "3 2\n0-1 3-\n", "3 2\n0-1 3- 5\n", "3 2\n0-1\t3-5\n", "3 2\n0-1 3:5\n", "3 2\n0:1 3-5\n", "3 2\n0-1 3-5;\n", "3 2\n0-1 3-5 0-1 3-5\n",
		"03 2\n", "3 02\n", "3 2\n00-1 3-5\n", "3 2\n0-01 3-5\n", "3 2\n0-1 03-5\n", "3 2\n0-1 3-05\n", "+3 2\n", "3 +2\n", "3 -0\n", "3 2\n+0-1 3-5\n", "3 2\n0-+1 3-5\n", "3 2\n0-1 +3-5\n", "3 2\n0-1 3-+5\n", "3 2\n-0-1 3-5\n", "3 2\n0--1 3-5\n", "3 2\n0-1 -3-5\n", "3 2\n0-1 3--5\n", "0x3 2\n", "3 2_0\n", "3.0 2\n", "3 2e0\n",
		"0 0\n", "9 0\n", "-1 0\n", "1 -1\n", "1 41\n", "2 0\n0-0 1-1\n", "2 0\n0-2 1-1\n", "2 0\n2-0 1-1\n", "2 0\n0-1 0-1\n", "2 0\n0-1 2-1\n", "2 0\n0-1 1-41\n", "2 0\n" + strings.Repeat("0-1 1-1\n", 21), "2 0\n0-1 1-1\n0-1 1-0\n",
		"259 2\n", "3 65538\n", "4294967299 2\n", "3 2\n256-1 3-5\n", "3 2\n0-257 3-5\n", "3 2\n0-1 65539-5\n", "3 2\n0-1 3-65541\n", "18446744073709551619 2\n", "3 18446744073709551618\n", "9223372036854775808 2\n",
		"\u0663 2\n", "3\u00a02\n", "3 2\x00\n", "\xff", "\ufeff3 2\n", "3 2\u2028", "3 2\n0\u20111 3-5\n", strings.Repeat("0-1 1-1\n", 125000), "2 0\n" + strings.Repeat("0-1 1-1\n", 124999), strings.Repeat("9", 1000000), strings.Repeat(" ", 1000000), strings.Repeat("\n", 1000000), strings.Repeat("-", 1000000), strings.Repeat("0", 999996) + "1 0\n",
	}
	for _, text := range texts {
		is(t, show("text", text[:min(30, len(text))]), "{0 0 []} 5", pack2(impl.ReadNet(text))...)
	}
}

// Nets are checked before all else, and all stations and hours before whether there is what is asked for.
func TestErrorsOfNets(t *testing.T) {
	for i, n := range invalidNets(t) {
		for _, station := range append([]int64{0, 1}, noStations...) {
			is(t, show("lanes", i, station), "[] 1", pack2(impl.LanesFrom(n, station))...)
			is(t, show("arrivals", i, station), "[] 1", pack2(impl.ArrivalsAt(n, at(0, 0), station))...)
			is(t, show("route", i, station), "[] 1", pack2(impl.RouteTimes(n, []int64{0, station}, 0))...)
		}
		for _, hour := range append([]int64{0, 5}, noHours...) {
			is(t, show("route", i, hour), "[] 1", pack2(impl.RouteTimes(n, nil, hour))...)
			is(t, show("where", i, hour), "[] [] 1", pack3(impl.WhereAt(n, at(0, 0), hour))...)
		}
		is(t, show("route", i), "[] 1", pack2(impl.RouteTimes(n, make([]int64, 13), 0))...)
		for _, a := range append([]impl.Scan{at(0, 0), at(1, 7)}, noScans...) {
			is(t, show("earliest", i, a), "[] 1", pack2(impl.EarliestAt(n, a))...)
			is(t, show("arrivals", i, a), "[] 1", pack2(impl.ArrivalsAt(n, a, 0))...)
			is(t, show("where", i, a), "[] [] 1", pack3(impl.WhereAt(n, a, 9))...)
			for _, pair := range [][2]impl.Scan{{a, at(0, 3)}, {at(0, 3), a}} {
				is(t, show("can go", i, pair), "false 1", pack2(impl.CanGo(n, pair[0], pair[1]))...)
				is(t, show("way", i, pair), "[] 1", pack2(impl.FewestLanes(n, pair[0], pair[1]))...)
				is(t, show("must pass", i, pair), "[] 1", pack2(impl.MustPass(n, pair[0], pair[1]))...)
			}
		}
	}
	n := readNet(t, netText)
	for _, station := range noStations {
		is(t, show("lanes", station), "[] 2", pack2(impl.LanesFrom(n, station))...)
		is(t, show("arrivals", station), "[] 2", pack2(impl.ArrivalsAt(n, at(0, 0), station))...)
		for _, route := range [][]int64{{station}, {0, station}, {station, 0}, {0, 0, 1, station}, append(make([]int64, 12), station), append([]int64{station}, make([]int64, 20)...)} {
			is(t, show("route", route), "[] 2", pack2(impl.RouteTimes(n, route, 0))...)
		}
	}
	for _, hour := range noHours {
		for _, route := range [][]int64{nil, {0}, {0, 1}, {1, 0}, make([]int64, 13)} {
			is(t, show("route", route, hour), "[] 2", pack2(impl.RouteTimes(n, route, hour))...)
		}
		is(t, show("where", hour), "[] [] 2", pack3(impl.WhereAt(n, at(0, 0), hour))...)
	}
	is(t, "a long route", "[] 3", pack2(impl.RouteTimes(n, make([]int64, 13), 0))...)
	is(t, "a long route", "[] 3", pack2(impl.RouteTimes(n, make([]int64, 1000000), 300))...)
	is(t, "a route of 12", "[] 6", pack2(impl.RouteTimes(n, make([]int64, 12), 0))...)
	for _, a := range noScans {
		is(t, show("earliest", a), "[] 2", pack2(impl.EarliestAt(n, a))...)
		is(t, show("arrivals", a), "[] 2", pack2(impl.ArrivalsAt(n, a, 1))...)
		is(t, show("where", a), "[] [] 2", pack3(impl.WhereAt(n, a, 9))...)
		for _, pair := range [][2]impl.Scan{{a, at(2, 9)}, {at(0, 0), a}, {at(2, 9), a}, {a, a}} {
			is(t, show("can go", pair), "false 2", pack2(impl.CanGo(n, pair[0], pair[1]))...)
			is(t, show("way", pair), "[] 2", pack2(impl.FewestLanes(n, pair[0], pair[1]))...)
			is(t, show("must pass", pair), "[] 2", pack2(impl.MustPass(n, pair[0], pair[1]))...)
		}
	}
}
