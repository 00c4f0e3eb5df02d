package tests

import (
	"slices"
	"testing"

	"loop.example/g01366/impl"
)

// trackArgs are arguments of the functions of the chapter.
type trackArgs struct {
	net   impl.Net
	a, b  impl.Scan
	list  []impl.Scan
	route []int64
	m, n  int64
}

// trackCalls has each function of the chapter.
var trackCalls = map[string]func(a trackArgs) []any{
	"ValidNet":     func(a trackArgs) []any { return []any{impl.ValidNet(a.net)} },
	"SameNet":      func(a trackArgs) []any { return []any{impl.SameNet(a.net, a.net)} },
	"LanesFrom":    func(a trackArgs) []any { return pack2(impl.LanesFrom(a.net, a.m)) },
	"EarliestAt":   func(a trackArgs) []any { return pack2(impl.EarliestAt(a.net, a.a)) },
	"RouteTimes":   func(a trackArgs) []any { return pack2(impl.RouteTimes(a.net, a.route, a.n)) },
	"ArrivalsAt":   func(a trackArgs) []any { return pack2(impl.ArrivalsAt(a.net, a.a, a.m)) },
	"CanGo":        func(a trackArgs) []any { return pack2(impl.CanGo(a.net, a.a, a.b)) },
	"WhereAt":      func(a trackArgs) []any { return pack3(impl.WhereAt(a.net, a.a, a.n)) },
	"FewestLanes":  func(a trackArgs) []any { return pack2(impl.FewestLanes(a.net, a.a, a.b)) },
	"MustPass":     func(a trackArgs) []any { return pack2(impl.MustPass(a.net, a.a, a.b)) },
	"SortScans":    func(a trackArgs) []any { return pack2(impl.SortScans(a.net, a.list)) },
	"CheckScans":   func(a trackArgs) []any { return pack2(impl.CheckScans(a.net, a.list)) },
	"FirstBadScan": func(a trackArgs) []any { return pack2(impl.FirstBadScan(a.net, a.list)) },
	"FalseScans":   func(a trackArgs) []any { return pack2(impl.FalseScans(a.net, a.list)) },
	"MostScans":    func(a trackArgs) []any { return pack2(impl.MostScans(a.net, a.list)) },
	"IsLate":       func(a trackArgs) []any { return pack2(impl.IsLate(a.net, a.list, a.m, a.n)) },
	"NetText":      func(a trackArgs) []any { return []any{impl.NetText(a.net)} },
	"ReadNet":      func(a trackArgs) []any { return pack2(impl.ReadNet(impl.NetText(a.net))) },
}

// roomyTrack returns arguments with the same elements and room behind them.
func roomyTrack(a trackArgs) trackArgs {
	a.net.Lanes = roomy(a.net.Lanes, impl.Lane{From: 0, To: 1, Least: 1, Most: 1})
	a.list, a.route = roomy(a.list, at(1, 7)), roomy(a.route, 1)
	return a
}

// wholeTrack tells arguments with all their room.
func wholeTrack(a trackArgs) string {
	return show(a.net, whole(a.net.Lanes), whole(a.list), whole(a.route))
}

// widestNet returns a net in which most is possible.
func widestNet() impl.Net {
	n := impl.Net{Stations: impl.MaxStations, Stay: impl.MaxTakes}
	for i := range impl.MaxLanes {
		n.Lanes = append(n.Lanes, impl.Lane{From: int8(i % 8), To: int8((i + 1 + i/8) % 8), Least: 1, Most: impl.MaxTakes})
	}
	return n
}

// someTracks returns arguments, some of them valid and some not.
func someTracks(t *testing.T) []trackArgs {
	n := readNet(t, netText)
	twelve := scans(0, 0, 1, 30, 2, 60, 3, 90, 4, 120, 5, 150, 6, 180, 7, 210, 0, 240, 1, 270, 2, 290, 3, 300)
	all := []trackArgs{
		{}, {net: n, b: at(2, 9), list: scans(0, 0, 1, 5, 2, 7), route: []int64{0, 1, 2}}, {net: n, b: at(2, 11), list: scans(0, 0, 1, 8, 2, 10), route: []int64{0, 2}}, {net: n, a: at(2, 5), b: at(0, 9), list: scans(2, 10, 0, 0), route: []int64{2, 0}},
		{net: n, a: at(0, 291), b: at(2, 300), list: scans(0, 291, 1, 296, 2, 300), route: []int64{0}}, {net: widestNet(), b: at(7, 300), list: twelve, route: []int64{0, 1, 2, 3, 4, 5, 6, 7, 0, 1, 2, 3}}, {net: widestNet(), a: at(3, 150), b: at(3, 290), list: slices.Repeat(twelve[:2], 6), route: make([]int64, 12)},
		{net: readNet(t, toAndFro), b: at(1, 299), list: scans(0, 0, 1, 299, 0, 300), route: []int64{0, 1, 0, 1, 0, 1, 0, 1, 0, 1, 0, 1}}, {net: readNet(t, slowNet), b: at(1, 300), list: scans(0, 0, 1, 300), route: []int64{1, 0, 1, 0}},
		{net: n, a: at(-1, 0), b: at(0, 301), list: make([]impl.Scan, 13), route: make([]int64, 13)}, {net: n, a: at(-128, -32768), b: at(127, 32767), list: scans(-128, -32768, 127, 32767), route: []int64{leastInt, mostInt}},
		{net: impl.Net{Stations: 1}, list: scans(0, 0), route: []int64{0}}, {net: impl.Net{Stations: 127, Stay: 32767, Lanes: []impl.Lane{{From: 127, To: -128, Least: -32768, Most: 32767}}}, list: scans(0, 0), route: []int64{0}},
		{net: impl.Net{Stations: 8, Stay: 1, Lanes: make([]impl.Lane, 1000)}, list: make([]impl.Scan, 1000), route: make([]int64, 1000)},
	}
	return all
}

// P1: every function returns for all arguments, modifies none, not even the room behind it, and returns the same again.
func TestTracksArePure(t *testing.T) {
	for name, call := range trackCalls {
		for _, a := range someTracks(t) {
			a = roomyTrack(a)
			for _, m := range []int64{leastInt, -1, 0, 2, 8, mostInt} {
				for _, n := range []int64{leastInt, -1, 0, 4, 11, 300, 301, mostInt} {
					a.m, a.n = m, n
					checkPureCall(t, name, call, a, wholeTrack)
				}
			}
		}
	}
}

// The two lists of WhereAt share no memory.
func TestPlacesAreApart(t *testing.T) {
	for _, hour := range []int64{0, 4, 11, 13} {
		stations, lanes, _ := impl.WhereAt(readNet(t, netText), at(0, 0), hour)
		told := show(lanes)
		spoil([]any{stations})
		is(t, show("lanes", hour), told, lanes)
	}
}

// P1: calls at the same time do not disturb each other.
func TestTracksAtTheSameTime(t *testing.T) {
	for _, a := range someTracks(t)[:8] {
		a.m, a.n = 1, 11
		for name, call := range trackCalls {
			checkAtTheSameTime(t, name, call, a)
		}
	}
}

// A nil slice and an empty one are equivalent.
func TestNoTracksAndNilAreTheSame(t *testing.T) {
	for name, call := range trackCalls {
		for _, stations := range []int8{0, 1, 3} {
			for _, n := range []int64{-1, 0, 1, 300, mostInt} {
				none := trackArgs{net: impl.Net{Stations: stations}, m: n, n: n}
				empty := trackArgs{net: impl.Net{Stations: stations, Lanes: []impl.Lane{}}, list: []impl.Scan{}, route: []int64{}, m: n, n: n}
				is(t, name, show(call(none)...), call(empty)...)
			}
		}
	}
}
