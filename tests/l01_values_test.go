package tests

import (
	"slices"
	"testing"

	"loop.example/g01366/impl"
)

func TestCodeName(t *testing.T) {
	names := []string{"ok", "invalid", "range", "limit", "state", "syntax", "notfound", "budget", "proof"}
	for code, name := range names {
		is(t, "a code", name, impl.CodeName(int64(code)))
	}
	for _, code := range []int64{-1, 9, 256, 1 << 32, leastInt, mostInt} {
		is(t, "no code", "", impl.CodeName(code))
	}
	is(t, "constants", "0 1 2 3 4 5 6 7 8", impl.OK, impl.ErrInvalid, impl.ErrRange, impl.ErrLimit, impl.ErrState,
		impl.ErrSyntax, impl.ErrNotFound, impl.ErrBudget, impl.ErrProof)
	is(t, "limits", "8 500 1000 50 12 6", impl.MaxKinds, impl.MaxValue, impl.MaxPostage, impl.MaxHave, impl.MaxStamps, impl.MaxLetters)
}

// invalidValues are lists that are no values.
var invalidValues = [][]int64{
	nil, {}, {0}, {-1}, {501}, {0, 1}, {1, 501}, {3, 3}, {5, 3}, {1, 2, 2}, {1, 3, 2},
	{leastInt, 1}, {1, mostInt}, {1, 2, 3, 4, 5, 6, 7, 8, 9}, make([]int64, 1000000),
}

func TestValidValues(t *testing.T) {
	for _, values := range [][]int64{{1}, {500}, {1, 500}, {3, 5, 7}, {499, 500}, {1, 2, 3, 4, 5, 6, 7, 8}, {493, 494, 495, 496, 497, 498, 499, 500}} {
		if !impl.ValidValues(values) {
			t.Errorf("values %v are not valid", values)
		}
	}
	for _, values := range invalidValues {
		if impl.ValidValues(values) {
			t.Errorf("%d values are valid: %v", len(values), values[:min(9, len(values))])
		}
	}
}

func TestExampleOfValues(t *testing.T) {
	values := []int64{3, 5, 7}
	is(t, "fewest", "[0 2 0] 2 0", pack3(impl.FewestStamps(values, 10))...)
	is(t, "ways", "2 0", pack2(impl.WaysToPay(values, 10))...)
	is(t, "greedy", "[1 0 1] 2 0", pack3(impl.GreedyStamps(values, 10))...)
	is(t, "greedy for 6", "[] 0 6", pack3(impl.GreedyStamps(values, 6))...)
	is(t, "first wrong", "6 0", pack2(impl.FirstWrongGreedy(values))...)
	is(t, "gaps", "[1 2 4] 0", pack2(impl.GapsUpTo(values, 1000))...)
	is(t, "greatest gap", "4 0", pack2(impl.GreatestGap(values))...)
	is(t, "least over", "5 0", pack2(impl.LeastOver(values, 4))...)
	is(t, "reach", "4 0", pack2(impl.ReachOf([]int64{1, 3}, 2))...)
	is(t, "best value", "4 8 0", pack3(impl.BestValue([]int64{1, 3}, 2))...)
}

func pack2[A, B any](a A, b B) []any { return []any{a, b} }

func pack3[A, B, C any](a A, b B, c C) []any { return []any{a, b, c} }

// P2: the counts pay just the postage, no fewer stamps do, and none with as few come first as a list.
func TestFewestStampsAgainstAll(t *testing.T) {
	const most = 30
	sets(9, 3, func(values []int64) {
		for postage, a := range allAnswers(values, noLimits(values, most), most) {
			want := show(a.counts, a.stamps, impl.OK)
			if a.ways == 0 {
				want = show([]int64{}, 0, impl.ErrNotFound)
			}
			is(t, show("fewest", values, postage), want, pack3(impl.FewestStamps(values, int64(postage)))...)
			is(t, show("can pay", values, postage), show(a.ways > 0, impl.OK), pack2(impl.CanPay(values, int64(postage)))...)
			is(t, show("ways", values, postage), show(a.ways, impl.OK), pack2(impl.WaysToPay(values, int64(postage)))...)
		}
	})
}

func TestFewestStampsFirstAsAList(t *testing.T) {
	for _, c := range []struct {
		values  []int64
		postage int64
		want    string
	}{
		{[]int64{1, 2, 3}, 4, "[0 2 0] 2 0"},
		{[]int64{1, 2, 3, 4, 5}, 6, "[0 0 2 0 0] 2 0"},
		{[]int64{2, 3, 4, 5, 6, 7, 8, 9}, 11, "[0 0 0 1 1 0 0 0] 2 0"},
		{[]int64{1, 4, 5, 7, 10}, 11, "[0 1 0 1 0] 2 0"},
		{[]int64{1}, 0, "[0] 0 0"},
		{[]int64{1}, 1000, "[1000] 1000 0"},
		{[]int64{500}, 1000, "[2] 2 0"},
		{[]int64{500}, 999, "[] 0 6"},
		{[]int64{498, 499, 500}, 1000, "[0 0 2] 2 0"},
		{[]int64{499, 500}, 1000, "[0 2] 2 0"},
		{[]int64{1, 499}, 1000, "[2 2] 4 0"},
		{[]int64{1, 2, 3, 4, 5, 6, 7, 8}, 1000, "[0 0 0 0 0 0 0 125] 125 0"},
	} {
		is(t, show("fewest", c.values, c.postage), c.want, pack3(impl.FewestStamps(c.values, c.postage))...)
	}
}

func TestWaysToPayOfManyCounts(t *testing.T) {
	for _, c := range []struct {
		values  []int64
		postage int64
		want    string
	}{
		{[]int64{1}, 0, "1 0"},
		{[]int64{7}, 0, "1 0"},
		{[]int64{7}, 1, "0 0"},
		{[]int64{1, 2}, 1000, "501 0"},
		{[]int64{1, 2, 3}, 1000, "83834 0"},
		{[]int64{1, 2, 5, 10, 20, 50, 100, 200}, 200, "73682 0"},
	} {
		is(t, show("ways", c.values, c.postage), c.want, pack2(impl.WaysToPay(c.values, c.postage))...)
	}
	ways, code := impl.WaysToPay([]int64{1, 2, 3, 4, 5, 6, 7, 8}, 1000)
	sum := int64(0)
	for eights := int64(0); eights <= 125; eights++ {
		part, _ := impl.WaysToPay([]int64{1, 2, 3, 4, 5, 6, 7}, 1000-8*eights)
		sum += part
	}
	is(t, "the most ways", show(sum, impl.OK), ways, code)
}

// greedyByHand takes one stamp after the other, each time the greatest one that fits.
func greedyByHand(values []int64, postage int64) (counts []int64, stamps, left int64) {
	counts = make([]int64, len(values))
	for left = postage; ; stamps++ {
		i := len(values) - 1
		for i >= 0 && values[i] > left {
			i--
		}
		if i < 0 {
			return counts, stamps, left
		}
		counts[i]++
		left -= values[i]
	}
}

func TestGreedyStampsAgainstHand(t *testing.T) {
	sets(9, 3, func(values []int64) {
		for postage := int64(0); postage <= 30; postage++ {
			counts, stamps, left := greedyByHand(values, postage)
			want := show(counts, stamps, impl.OK)
			if left > 0 {
				want = show([]int64{}, 0, impl.ErrNotFound)
			}
			is(t, show("greedy", values, postage), want, pack3(impl.GreedyStamps(values, postage))...)
		}
	})
	is(t, "nothing", "[0 0] 0 0", pack3(impl.GreedyStamps([]int64{3, 5}, 0))...)
	is(t, "the most", "[0 2] 2 0", pack3(impl.GreedyStamps([]int64{499, 500}, 1000))...)
}

func TestFirstWrongGreedyAgainstHand(t *testing.T) {
	const most = 40 // greedy stamps are wrong below the sum of the two greatest values, or never
	sets(12, 3, func(values []int64) {
		want := show(0, impl.ErrNotFound)
		for postage, a := range allAnswers(values, noLimits(values, most), most) {
			_, stamps, left := greedyByHand(values, int64(postage))
			if a.ways > 0 && (left > 0 || stamps > a.stamps) {
				want = show(postage, impl.OK)
				break
			}
		}
		is(t, show("first wrong", values), want, pack2(impl.FirstWrongGreedy(values))...)
	})
	is(t, "more stamps", "6 0", pack2(impl.FirstWrongGreedy([]int64{1, 3, 4}))...)
	is(t, "something left", "998 0", pack2(impl.FirstWrongGreedy([]int64{499, 500}))...)
	is(t, "one value", "0 6", pack2(impl.FirstWrongGreedy([]int64{500}))...)
	is(t, "coins", "0 6", pack2(impl.FirstWrongGreedy([]int64{1, 2, 5, 10, 20, 50, 100, 200}))...)
}

func TestGapsUpToAgainstAll(t *testing.T) {
	sets(9, 3, func(values []int64) {
		can := payable(values, 40)
		for most := int64(0); most <= 40; most++ {
			var gaps []int64
			for amount := int64(1); amount <= most; amount++ {
				if !can[amount] {
					gaps = append(gaps, amount)
				}
			}
			is(t, show("gaps", values, most), show(gaps, impl.OK), pack2(impl.GapsUpTo(values, most))...)
		}
	})
	gaps, code := impl.GapsUpTo([]int64{500}, 1000)
	is(t, "gaps of 500", "998 499 501 999 0", len(gaps), gaps[498], gaps[499], gaps[997], code)
	is(t, "no gaps", "[] 0", pack2(impl.GapsUpTo([]int64{1, 500}, 1000))...)
}

// P3: the greatest gap cannot be paid, and all behind it can.
func TestGreatestGapAgainstAll(t *testing.T) {
	sets(14, 3, func(values []int64) {
		divisor := int64(0)
		for try := int64(1); try <= 14; try++ {
			if !slices.ContainsFunc(values, func(v int64) bool { return v%try != 0 }) {
				divisor = try
			}
		}
		gap := int64(0)
		for amount, can := range payable(values, 400) {
			if !can {
				gap = int64(amount)
			}
		}
		want := show(gap, impl.OK)
		if divisor > 1 {
			want = show(0, impl.ErrState)
		} else if gap == 0 {
			want = show(0, impl.ErrNotFound)
		}
		is(t, show("greatest gap", values), want, pack2(impl.GreatestGap(values))...)
	})
}

func TestGreatestGapBehindAllPostage(t *testing.T) {
	for _, c := range []struct {
		values []int64
		want   string
	}{
		{[]int64{6, 10, 15}, "29 0"},
		{[]int64{499, 500}, "248501 0"},
		{[]int64{2, 499}, "497 0"},
		{[]int64{1}, "0 6"},
		{[]int64{1, 2, 3}, "0 6"},
		{[]int64{2}, "0 4"},
		{[]int64{500}, "0 4"},
		{[]int64{6, 10, 14, 500}, "0 4"},
		{[]int64{499, 500, 501}, "0 1"},
	} {
		is(t, show("greatest gap", c.values), c.want, pack2(impl.GreatestGap(c.values))...)
	}
	for _, values := range [][]int64{{493, 494, 495, 496, 497, 498, 499, 500}, {400, 450, 499}, {210, 330, 462, 499}, {251, 500}} {
		gap, code := impl.GreatestGap(values)
		can := payable(values, 250000)
		behind := slices.Index(can[gap+1:], false)
		is(t, show("behind", values), "0 true false -1", code, gap > impl.MaxPostage, can[gap], behind)
	}
}

func TestLeastOverAgainstAll(t *testing.T) {
	sets(9, 3, func(values []int64) {
		can := payable(values, 60)
		for postage := int64(0); postage <= 40; postage++ {
			over := postage
			for !can[over] {
				over++
			}
			is(t, show("least over", values, postage), show(over, impl.OK), pack2(impl.LeastOver(values, postage))...)
		}
	})
	is(t, "nothing", "0 0", pack2(impl.LeastOver([]int64{500}, 0))...)
	is(t, "more than any postage", "1497 0", pack2(impl.LeastOver([]int64{499}, 1000))...)
	is(t, "just the most", "1000 0", pack2(impl.LeastOver([]int64{500}, 1000))...)
	is(t, "one behind the most", "1001 0", pack2(impl.LeastOver([]int64{91, 182}, 1000))...)
}

// P4: each amount up to the reach can be paid with so many stamps, and the one behind it cannot.
func TestReachOfAgainstAll(t *testing.T) {
	sets(9, 3, func(values []int64) {
		for stamps := int64(0); stamps <= 5; stamps++ {
			want := show(reachByTrying(values, stamps), impl.OK)
			is(t, show("reach", values, stamps), want, pack2(impl.ReachOf(values, stamps))...)
		}
	})
	is(t, "no one", "0 0", pack2(impl.ReachOf([]int64{2, 3}, 12))...)
	is(t, "no stamps", "0 0", pack2(impl.ReachOf([]int64{1, 2}, 0))...)
	is(t, "one", "12 0", pack2(impl.ReachOf([]int64{1}, 12))...)
	is(t, "as many as one may", "36 0", pack2(impl.ReachOf([]int64{1, 2, 3}, 12))...)
	is(t, "far apart", "12 0", pack2(impl.ReachOf([]int64{1, 500}, 12))...)
}

func TestReachOfManyValues(t *testing.T) {
	values := []int64{1, 7, 36, 120, 250, 251, 420, 500}
	reach, code := impl.ReachOf(values, 12)
	least := make([]int64, reach+2)
	for amount := int64(1); amount <= reach+1; amount++ {
		stamps := int64(mostInt - 1)
		for _, value := range values {
			if value <= amount {
				stamps = min(stamps, least[amount-value]+1)
			}
		}
		least[amount] = stamps
		if (stamps <= 12) != (amount <= reach) {
			t.Errorf("the amount %d needs %d stamps, but the reach is %d", amount, stamps, reach)
		}
	}
	is(t, "code", "0", code)
}

// P4: no value has a greater reach than the best one, and no lesser one as great a reach.
func TestBestValueAgainstAll(t *testing.T) {
	sets(5, 2, func(values []int64) {
		for stamps := int64(0); stamps <= 4; stamps++ {
			best, most := int64(0), int64(-1)
			for value := int64(1); value <= 30; value++ { // behind the reach of the values it is of no use
				if slices.Contains(values, value) {
					continue
				}
				with := append(slices.Clone(values), value)
				slices.Sort(with)
				if reach := reachByTrying(with, stamps); reach > most {
					best, most = value, reach
				}
			}
			is(t, show("best", values, stamps), show(best, most, impl.OK), pack3(impl.BestValue(values, stamps))...)
		}
	})
}

func TestBestValueAtTheEdges(t *testing.T) {
	for _, c := range []struct {
		values []int64
		stamps int64
		want   string
	}{
		{[]int64{2}, 0, "1 0 0"},
		{[]int64{1, 2, 4}, 0, "3 0 0"},
		{[]int64{1}, 1, "2 2 0"},
		{[]int64{2}, 1, "1 2 0"},
		{[]int64{500}, 1, "1 1 0"},
		{[]int64{1}, 12, "7 54 0"},
		{[]int64{2, 3, 4, 5, 6, 7, 8}, 1, "1 8 0"},
		{[]int64{494, 495, 496, 497, 498, 499, 500}, 12, "1 12 0"},
	} {
		is(t, show("best", c.values, c.stamps), c.want, pack3(impl.BestValue(c.values, c.stamps))...)
	}
}

// The best value is looked for up to MaxValue, which is the best one for the second list.
func TestBestValueThatIsGreat(t *testing.T) {
	for _, values := range [][]int64{{1, 5, 25, 125, 300}, {1, 12, 22, 46, 50, 95, 137}} {
		best, most := int64(0), int64(-1)
		for value := int64(1); value <= impl.MaxValue; value++ {
			if slices.Contains(values, value) {
				continue
			}
			with := append(slices.Clone(values), value)
			slices.Sort(with)
			if reach, _ := impl.ReachOf(with, 12); reach > most {
				best, most = value, reach
			}
		}
		is(t, show("best", values), show(best, most, impl.OK), pack3(impl.BestValue(values, 12))...)
	}
	is(t, "the greatest value", "500 3314 0", pack3(impl.BestValue([]int64{1, 12, 22, 46, 50, 95, 137}, 12))...)
}

// Values are checked before amounts, and these before all else; all other results are then zero.
func TestErrorsOfValues(t *testing.T) {
	good, full := []int64{2, 4}, []int64{1, 2, 3, 4, 5, 6, 7, 8}
	for _, values := range invalidValues {
		for _, n := range []int64{leastInt, -1, 0, 5, 13, 1001, mostInt} {
			is(t, "invalid: can pay", "false 1", pack2(impl.CanPay(values, n))...)
			is(t, "invalid: fewest", "[] 0 1", pack3(impl.FewestStamps(values, n))...)
			is(t, "invalid: greedy", "[] 0 1", pack3(impl.GreedyStamps(values, n))...)
			is(t, "invalid: ways", "0 1", pack2(impl.WaysToPay(values, n))...)
			is(t, "invalid: gaps", "[] 1", pack2(impl.GapsUpTo(values, n))...)
			is(t, "invalid: least over", "0 1", pack2(impl.LeastOver(values, n))...)
			is(t, "invalid: reach", "0 1", pack2(impl.ReachOf(values, n))...)
			is(t, "invalid: best", "0 0 1", pack3(impl.BestValue(values, n))...)
		}
		is(t, "invalid: first wrong", "0 1", pack2(impl.FirstWrongGreedy(values))...)
		is(t, "invalid: greatest gap", "0 1", pack2(impl.GreatestGap(values))...)
	}
	for _, n := range []int64{leastInt, -1, 1001, mostInt} {
		is(t, "range: can pay", "false 2", pack2(impl.CanPay(good, n))...)
		is(t, "range: fewest", "[] 0 2", pack3(impl.FewestStamps(good, n))...)
		is(t, "range: greedy", "[] 0 2", pack3(impl.GreedyStamps(good, n))...)
		is(t, "range: ways", "0 2", pack2(impl.WaysToPay(good, n))...)
		is(t, "range: gaps", "[] 2", pack2(impl.GapsUpTo(good, n))...)
		is(t, "range: least over", "0 2", pack2(impl.LeastOver(good, n))...)
	}
	for _, n := range []int64{leastInt, -1, 13, mostInt} {
		is(t, "range: reach", "0 2", pack2(impl.ReachOf(good, n))...)
		is(t, "range: best", "0 0 2", pack3(impl.BestValue(good, n))...)
		is(t, "range before limit: best", "0 0 2", pack3(impl.BestValue(full, n))...)
	}
	for _, n := range []int64{0, 1, 12} {
		is(t, "limit: best", "0 0 3", pack3(impl.BestValue(full, n))...)
	}
	is(t, "reach of all kinds", "96 0", pack2(impl.ReachOf(full, 12))...)
}
