package tests

import (
	"math/rand/v2"
	"slices"
	"testing"

	"loop.example/g01366/impl"
)

// readNet returns the net of a text that has one.
func readNet(t *testing.T, text string) impl.Net {
	t.Helper()
	n, code := impl.ReadNet(text)
	if code != impl.OK {
		t.Fatalf("no net is read from %q", text)
	}
	return n
}

// at returns a scan.
func at(station, hour int) impl.Scan {
	return impl.Scan{Station: int8(station), Hour: int16(hour)}
}

// life tells where a parcel can be behind a scan: at which hours it can arrive at a station by one or more lanes, in which it
// can be there, and in which it can be on a lane.
type life struct {
	arrives, stays [impl.MaxStations][impl.MaxHour + 1]bool
	rides          [impl.MaxLanes][impl.MaxHour + 1]bool
}

// lifeByTrying goes on from each arrival in all ways: with each stay, by each lane, and for each number of hours.
func lifeByTrying(n impl.Net, a impl.Scan) *life {
	all := &life{}
	arrivals := []impl.Scan{a}
	for i := 0; i < len(arrivals); i++ {
		station, hour := arrivals[i].Station, int(arrivals[i].Hour)
		for left := hour; left <= min(hour+int(n.Stay), impl.MaxHour); left++ {
			all.stays[station][left] = true
			for k, l := range n.Lanes {
				if l.From != station {
					continue
				}
				for on := left + 1; on < left+int(l.Most) && on <= impl.MaxHour; on++ {
					all.rides[k][on] = true
				}
				for end := left + int(l.Least); end <= left+int(l.Most) && end <= impl.MaxHour; end++ {
					if !all.arrives[l.To][end] {
						all.arrives[l.To][end] = true
						arrivals = append(arrivals, at(int(l.To), end))
					}
				}
			}
		}
	}
	return all
}

// goes reports whether a parcel can arrive as a scan tells.
func (f *life) goes(b impl.Scan) bool {
	return f.arrives[b.Station][b.Hour]
}

// hoursAt returns the hours of arrivals at a station.
func (f *life) hoursAt(station int) []int64 {
	hours := []int64{}
	for hour, is := range f.arrives[station] {
		if is {
			hours = append(hours, int64(hour))
		}
	}
	return hours
}

// earliest returns the earliest hours at all stations of a net behind a scan.
func (f *life) earliest(n impl.Net, a impl.Scan) []int64 {
	list := []int64{}
	for station := range int(n.Stations) {
		first := int64(slices.Index(f.arrives[station][:], true))
		if station == int(a.Station) {
			first = int64(a.Hour)
		}
		list = append(list, first)
	}
	return list
}

// where returns the stations and the lanes on which a parcel can be in an hour.
func (f *life) where(hour int) (stations, lanes []int64) {
	for station, hours := range f.stays {
		if hours[hour] {
			stations = append(stations, int64(station))
		}
	}
	for lane, hours := range f.rides {
		if hours[hour] {
			lanes = append(lanes, int64(lane))
		}
	}
	return stations, lanes
}

// mustByTrying returns the stations of a net without which a parcel does not go from a to b.
func mustByTrying(n impl.Net, a, b impl.Scan) []int64 {
	list := []int64{}
	for station := range n.Stations {
		if station == a.Station || station == b.Station {
			continue
		}
		less := impl.Net{Stations: n.Stations, Stay: n.Stay}
		for _, l := range n.Lanes {
			if l.From != station && l.To != station {
				less.Lanes = append(less.Lanes, l)
			}
		}
		if !lifeByTrying(less, a).goes(b) {
			list = append(list, int64(station))
		}
	}
	return list
}

// oneFurther returns all arrivals that are one lane behind some, but those after an hour.
func oneFurther(n impl.Net, now map[impl.Scan]bool, last int16) map[impl.Scan]bool {
	next := map[impl.Scan]bool{}
	for s := range now {
		for _, l := range n.Lanes {
			for takes := l.Least; l.From == s.Station && takes <= l.Most+n.Stay; takes++ {
				if s.Hour+takes <= last {
					next[impl.Scan{Station: l.To, Hour: s.Hour + takes}] = true
				}
			}
		}
	}
	return next
}

// lanesBetween returns with how few lanes, one or more, a parcel goes from some arrivals to b; -1 if it does not.
func lanesBetween(n impl.Net, now map[impl.Scan]bool, b impl.Scan) int {
	for lanes := 1; ; lanes++ {
		now = oneFurther(n, now, b.Hour)
		if now[b] {
			return lanes
		}
		if len(now) == 0 {
			return -1
		}
	}
}

// isFurther reports whether a parcel goes from some arrivals to b with just so many lanes.
func isFurther(n impl.Net, now map[impl.Scan]bool, b impl.Scan, lanes int) bool {
	for range lanes {
		now = oneFurther(n, now, b.Hour)
	}
	return now[b]
}

// wayByLayers returns the first way with the fewest lanes from a to b, station by station: each one is the least one with
// which it goes on. It returns an empty list if there is none.
func wayByLayers(n impl.Net, a, b impl.Scan) []int64 {
	now := map[impl.Scan]bool{a: true}
	lanes := lanesBetween(n, now, b)
	if lanes < 0 {
		return []int64{}
	}
	way := []int64{int64(a.Station)}
	for left := lanes - 1; left >= 0; left-- {
		next := oneFurther(n, now, b.Hour)
		for station := range n.Stations {
			there := map[impl.Scan]bool{}
			for s := range next {
				if s.Station == station {
					there[s] = true
				}
			}
			if isFurther(n, there, b, left) {
				way, now = append(way, int64(station)), there
				break
			}
		}
	}
	return way
}

// wayByTrying returns the first one of all lists of stations with the fewest lanes by which a parcel goes from a to b: it tries
// all lists with one lane, then all with two lanes, and so on.
func wayByTrying(n impl.Net, a, b impl.Scan) []int64 {
	for lanes := range int(b.Hour-a.Hour) + 1 {
		if lanes == 0 {
			continue
		}
		way := []int64{}
		allLists(lanes-1, int64(n.Stations)-1, func(between []int64) {
			list := slices.Concat([]int64{int64(a.Station)}, between, []int64{int64(b.Station)})
			if len(way) == 0 && slices.Contains(hoursAlong(n, list, int(a.Hour), int(b.Hour)), int(b.Hour)) {
				way = list
			}
		})
		if len(way) > 0 {
			return way
		}
	}
	return []int64{}
}

// hoursAlong returns all hours up to last, ascending, at which a parcel can arrive at the end of a route, trying all lanes,
// stays and hours.
func hoursAlong(n impl.Net, route []int64, hour, last int) []int {
	hours := []int{hour}
	for i := 1; i < len(route); i++ {
		next := []int{}
		for _, now := range hours {
			for _, l := range n.Lanes {
				if int64(l.From) != route[i-1] || int64(l.To) != route[i] {
					continue
				}
				for stay := range int(n.Stay) + 1 {
					for takes := int(l.Least); takes <= int(l.Most); takes++ {
						next = append(next, now+stay+takes)
					}
				}
			}
		}
		slices.Sort(next)
		hours = slices.DeleteFunc(slices.Compact(next), func(h int) bool { return h > last })
	}
	return hours
}

// timesByTrying returns the earliest and the latest hours along a route, and whether the earliest ones are not too late.
func timesByTrying(n impl.Net, route []int64, hour int) ([][2]int64, bool) {
	list := [][2]int64{}
	for i := range route {
		hours := hoursAlong(n, route[:i+1], hour, 1<<20)
		if len(hours) == 0 || hours[0] > impl.MaxHour {
			return [][2]int64{}, false
		}
		list = append(list, [2]int64{int64(hours[0]), int64(hours[len(hours)-1])})
	}
	return list, true
}

// goings tells which scans of a list can be gone to from which ones.
func goings(n impl.Net, list []impl.Scan) [][]bool {
	can := [][]bool{}
	for _, a := range list {
		row := []bool{}
		from := lifeByTrying(n, a)
		for _, b := range list {
			row = append(row, from.goes(b))
		}
		can = append(can, row)
	}
	return can
}

// badByTrying returns the place of the first one of some scans, told by their indices, that cannot be gone to; -1 if there is none.
func badByTrying(can [][]bool, indices []int64) int {
	for i := 1; i < len(indices); i++ {
		if !can[indices[i-1]][indices[i]] {
			return i
		}
	}
	return -1
}

// parts calls visit with each part of the first numbers, ascending.
func parts(count int, visit func([]int64)) {
	for bits := range 1 << count {
		part := []int64{}
		for i := range count {
			if bits>>i&1 == 1 {
				part = append(part, int64(i))
			}
		}
		visit(part)
	}
}

// mostScansByTrying returns the longest one of all lists of indices whose scans are right, and of these the first one.
func mostScansByTrying(can [][]bool) []int64 {
	best := []int64{}
	parts(len(can), func(part []int64) {
		if len(part) < len(best) || len(part) == len(best) && slices.Compare(part, best) >= 0 {
			return
		}
		if badByTrying(can, part) < 0 {
			best = part
		}
	})
	return best
}

// falseByTrying returns each index without which the others are right.
func falseByTrying(can [][]bool) []int64 {
	list := []int64{}
	for i := range can {
		others := []int64{}
		for k := range can {
			if k != i {
				others = append(others, int64(k))
			}
		}
		if badByTrying(can, others) < 0 {
			list = append(list, int64(i))
		}
	}
	return list
}

// isLateByTrying reports whether a parcel with right scans neither has been at a station up to an hour nor can be.
func isLateByTrying(n impl.Net, list []impl.Scan, station, promised int) bool {
	for _, s := range list {
		if int(s.Station) == station && int(s.Hour) <= promised {
			return false
		}
	}
	return !slices.Contains(lifeByTrying(n, list[len(list)-1]).arrives[station][:promised+1], true)
}

// grid tells how random nets are made: with up to so many stations and lanes, and numbers up to these.
type grid struct {
	cases, stations, lanes int
	stay, takes            int
}

// Nets of which all ways can be tried; nets with few stations and many lanes; and all that is valid.
var (
	littleGrid = grid{cases: 400, stations: 4, lanes: 7, stay: 2, takes: 4}
	denseGrid  = grid{cases: 150, stations: 6, lanes: impl.MaxLanes, stay: 6, takes: 12}
	greatGrid  = grid{cases: 12, stations: impl.MaxStations, lanes: impl.MaxLanes, stay: impl.MaxTakes, takes: impl.MaxTakes}
)

// each calls visit with nets, always the same ones.
func (g grid) each(visit func(n impl.Net, source *rand.Rand)) {
	source := rand.New(rand.NewPCG(uint64(g.cases), uint64(g.lanes*100+g.takes)))
	for range g.cases {
		n := impl.Net{Stations: int8(2 + source.IntN(g.stations-1)), Stay: int16(source.IntN(g.stay + 1))}
		for range source.IntN(g.lanes + 1) {
			ends := source.Perm(int(n.Stations))
			least := 1 + source.IntN(g.takes)
			most := least + source.IntN(g.takes-least+1)
			n.Lanes = append(n.Lanes, impl.Lane{From: int8(ends[0]), To: int8(ends[1]), Least: int16(least), Most: int16(most)})
		}
		visit(n, source)
	}
}

// someScan returns a scan of a net up to an hour.
func someScan(source *rand.Rand, n impl.Net, last int) impl.Scan {
	return at(source.IntN(int(n.Stations)), source.IntN(last+1))
}

// trip goes through a net as a parcel might, and calls seen for each hour with the station or the lane, the other one being -1;
// it returns all arrivals, the first one among them.
func trip(source *rand.Rand, n impl.Net, a impl.Scan, seen func(hour, station, lane int)) []impl.Scan {
	list := []impl.Scan{a}
	for {
		station, hour := int(list[len(list)-1].Station), int(list[len(list)-1].Hour)
		leaving := []int{}
		for i, l := range n.Lanes {
			if int(l.From) == station {
				leaving = append(leaving, i)
			}
		}
		left := hour + source.IntN(int(n.Stay)+1)
		for ; hour <= min(left, impl.MaxHour); hour++ {
			seen(hour, station, -1)
		}
		if len(leaving) == 0 {
			return list
		}
		lane := leaving[source.IntN(len(leaving))]
		l := n.Lanes[lane]
		end := left + int(l.Least) + source.IntN(int(l.Most-l.Least)+1)
		for hour = left + 1; hour < end && hour <= impl.MaxHour; hour++ {
			seen(hour, -1, lane)
		}
		if end > impl.MaxHour {
			return list
		}
		list = append(list, at(int(l.To), end))
	}
}

// someScans returns scans, most of them right: some of those of a trip, among which wrong ones may be.
func someScans(source *rand.Rand, n impl.Net, size, last int) []impl.Scan {
	list := []impl.Scan{}
	for _, s := range trip(source, n, someScan(source, n, last), func(int, int, int) {}) {
		if len(list) < size && source.IntN(3) > 0 {
			list = append(list, s)
		}
	}
	for range source.IntN(3) {
		if len(list) < size {
			list = slices.Insert(list, source.IntN(len(list)+1), someScan(source, n, last))
		}
	}
	if len(list) > 1 && source.IntN(6) == 0 {
		i := source.IntN(len(list))
		list[0], list[i] = list[i], list[0]
	}
	return list
}
