package tests

import (
	"math/rand/v2"
	"slices"
	"strings"
	"testing"

	"loop.example/g01366/impl"
)

// readVouchers returns the vouchers of a text that has some.
func readVouchers(t *testing.T, text string) []impl.Voucher {
	t.Helper()
	list, code := impl.ReadVouchers(text)
	if code != impl.OK {
		t.Fatalf("no vouchers are read from %q", text)
	}
	return list
}

// invalidSwaps are pairs of lists that are no parcels that are wanted and have been got.
var invalidSwaps = [][2][]int64{
	{{1}, {2}}, {{1}, nil}, {nil, {1}}, {{1, 2}, {1}}, {{1}, {1, 1}}, {{1}, {1, 2}}, {{1, 2}, {2, 2}}, {{1, 2}, {1, 1}}, {{1, 1}, {1, 2}}, {{1, 1}, {1, 1}}, {{1, 2, 1}, {2, 1, 1}}, {{1, 2, 1}, {2, 1, 2}}, {{1, 2, 3}, {1, 2, 4}},
	{{-1}, {-1}}, {{101}, {101}}, {{0, 101}, {101, 0}}, {{0, -1}, {-1, 0}}, {{leastInt}, {leastInt}}, {{mostInt}, {mostInt}}, {{5, 256}, {256, 5}}, {{5}, {1<<32 + 5}},
	{{0, 1, 2, 3, 4, 5, 6, 7, 8, 9}, {0, 1, 2, 3, 4, 5, 6, 7, 8, 9}}, {{0, 1, 2, 3, 4, 5, 6, 7, 8}, {0, 1, 2, 3, 4, 5, 6, 7, 8, 9}}, {{0, 1, 2, 3, 4, 5, 6, 7, 8, 9}, {0, 1, 2, 3, 4, 5, 6, 7, 8}},
	{{1, 1}, {1}}, {{1}, {1, 1}}, {{1, 2, 1}, {2, 1}}, {{1, 2}, {2, 1, 1}}, {{7, 7, 7, 7, 7, 7, 7, 7, 7}, {7}}, {make([]int64, 1000000), {0}}, {{0}, make([]int64, 1000000)}, {{1, 2, 3}, {1, 1, 4}}, {{1, 2, 3}, {2, 2, 2}},
}

func TestSwapsAtTheEdges(t *testing.T) {
	for _, c := range []struct {
		wanted, got []int64
		rings       string
		exchanges   int64
	}{
		{nil, nil, "[]", 0}, {[]int64{7}, []int64{7}, "[]", 0}, {[]int64{0, 100}, []int64{0, 100}, "[]", 0}, {[]int64{0, 100}, []int64{100, 0}, "[[0 1]]", 1},
		// Each one has the parcel of the next one.
		{[]int64{1, 2, 3}, []int64{2, 3, 1}, "[[0 1 2]]", 2}, {[]int64{1, 2, 3}, []int64{3, 1, 2}, "[[0 2 1]]", 2}, {[]int64{9, 5, 7}, []int64{5, 7, 9}, "[[0 1 2]]", 2},
		{[]int64{1, 2, 3, 4}, []int64{2, 3, 1, 4}, "[[0 1 2]]", 2}, {[]int64{1, 2, 3, 4}, []int64{1, 4, 2, 3}, "[[1 3 2]]", 2}, {[]int64{1, 2, 3, 4}, []int64{4, 3, 2, 1}, "[[0 3] [1 2]]", 2}, {[]int64{1, 2, 3, 4}, []int64{2, 1, 4, 3}, "[[0 1] [2 3]]", 2},
		{[]int64{4, 3, 2, 1}, []int64{1, 2, 3, 4}, "[[0 3] [1 2]]", 2}, {[]int64{40, 10, 30, 20}, []int64{30, 20, 40, 10}, "[[0 2] [1 3]]", 2},
		{[]int64{0, 1, 2, 3, 4, 5, 6, 7, 8}, []int64{1, 2, 3, 4, 5, 6, 7, 8, 0}, "[[0 1 2 3 4 5 6 7 8]]", 8}, {[]int64{0, 1, 2, 3, 4, 5, 6, 7, 8}, []int64{8, 7, 6, 5, 4, 3, 2, 1, 0}, "[[0 8] [1 7] [2 6] [3 5]]", 4},
		{[]int64{92, 93, 94, 95, 96, 97, 98, 99, 100}, []int64{92, 94, 93, 95, 100, 96, 97, 98, 99}, "[[1 2] [4 8 7 6 5]]", 5},
	} {
		is(t, show("rings", c.wanted, c.got), c.rings+" 0", pack2(impl.SwapsFor(c.wanted, c.got))...)
		is(t, show("exchanges", c.wanted, c.got), show(c.exchanges, impl.OK), pack2(impl.ExchangesFor(c.wanted, c.got))...)
	}
	for i, pair := range invalidSwaps {
		is(t, show("rings", i), "[] 1", pack2(impl.SwapsFor(pair[0], pair[1]))...)
		is(t, show("exchanges", i), "0 1", pack2(impl.ExchangesFor(pair[0], pair[1]))...)
	}
}

// checkRings checks that rings have all whose parcels are wrong, once, that each one has the parcel of the next one, and their order.
func checkRings(t *testing.T, wanted, got []int64, rings [][]int64) {
	t.Helper()
	name := show("rings", wanted, got, rings)
	in := make([]int, len(wanted))
	before := int64(-1)
	for _, ring := range rings {
		if len(ring) < 2 || ring[0] != slices.Min(ring) || ring[0] <= before {
			t.Fatalf("%s: a ring begins with a wrong one, or has less than two", name)
		}
		before = ring[0]
		for i, buyer := range ring {
			in[buyer]++
			if next := ring[(i+1)%len(ring)]; got[buyer] != wanted[next] {
				t.Fatalf("%s: %d has not the parcel of %d", name, buyer, next)
			}
		}
	}
	for buyer, times := range in {
		if want := wanted[buyer] != got[buyer]; times > 1 || want != (times == 1) {
			t.Fatalf("%s: %d is in %d rings", name, buyer, times)
		}
	}
}

// P16: rings have all whose parcels are wrong; as many exchanges are needed as are told, and no fewer do.
func TestSwapsAgainstAll(t *testing.T) {
	for _, numbers := range [][]int64{{}, {50}, {0, 100}, {3, 4, 5}, {1, 2, 3, 4}, {0, 7, 20, 30, 99}} {
		orders(numbers, func(order []int64) {
			wanted := slices.Clone(order)
			orders(numbers, func(got []int64) {
				rings, code := impl.SwapsFor(wanted, got)
				is(t, show("code", wanted, got), "0", code)
				checkRings(t, wanted, got, rings)
				exchanges, code := impl.ExchangesFor(wanted, got)
				is(t, show("code", wanted, got), "0", code)
				sum := int64(0)
				for _, ring := range rings {
					sum += int64(len(ring)) - 1
				}
				is(t, show("exchanges", wanted, got), show(sum), exchanges)
				if len(numbers) < 5 {
					is(t, show("fewest exchanges", wanted, got), show(exchangesByTrying(wanted, got)), exchanges)
				}
			})
		})
	}
	source := rand.New(rand.NewPCG(16, 16))
	for range 2000 {
		wanted := []int64{}
		for _, number := range source.Perm(101)[:source.IntN(10)] {
			wanted = append(wanted, int64(number))
		}
		got := slices.Clone(wanted)
		source.Shuffle(len(got), func(i, k int) { got[i], got[k] = got[k], got[i] })
		rings, code := impl.SwapsFor(wanted, got)
		is(t, show("code", wanted, got), "0", code)
		checkRings(t, wanted, got, rings)
	}
	fewest := []int64{0, 1, 2, 3, 4}
	orders(fewest, func(got []int64) {
		is(t, show("fewest exchanges", got), show(exchangesByTrying(fewest, got), impl.OK), pack2(impl.ExchangesFor(fewest, got))...)
	})
}

// invalidVouchers are lists that are no vouchers.
var invalidVouchers = [][]impl.Voucher{
	{{Amount: -1}}, {{Amount: 1000001}}, {{Amount: -2147483648}}, {{Amount: 2147483647}}, {{Until: -1}}, {{Until: 1001}}, {{Until: -32768}}, {{Until: 32767}},
	{{}, {Amount: -1}}, {{Until: 1001}, {}}, {{}, {Amount: 5, Until: 5}, {Amount: 1000001, Until: 5}, {}}, make([]impl.Voucher, 13), make([]impl.Voucher, 1000000),
}

func TestValidVouchers(t *testing.T) {
	for _, list := range [][]impl.Voucher{nil, {}, {{}}, {{Amount: 1000000, Until: 1000}}, {{Amount: 1}, {Until: 1}, {}}, make([]impl.Voucher, 12), slices.Repeat([]impl.Voucher{{Amount: 1000000, Until: 1000}}, 12)} {
		if !impl.ValidVouchers(list) {
			t.Errorf("the vouchers %v are not valid", list)
		}
	}
	for i, list := range invalidVouchers {
		if impl.ValidVouchers(list) {
			t.Errorf("the list %d is of valid vouchers", i)
		}
	}
}

func TestPayVouchersAtTheEdges(t *testing.T) {
	for _, c := range []struct {
		text        string
		day, amount int64
		want        string
		rest        int64
	}{
		{"", 0, 0, "", 0}, {"", 1000, 1000000, "", 1000000}, {"5@3", 3, 0, "5@3", 0}, {"5@3", 3, 4, "1@3", 0}, {"5@3", 3, 5, "0@3", 0}, {"5@3", 3, 6, "0@3", 1}, {"5@3", 4, 6, "5@3", 6}, {"5@3", 4, 0, "5@3", 0}, {"5@3", 0, 5, "0@3", 0}, {"5@0", 0, 5, "0@0", 0},
		{"5@1000", 1000, 5, "0@1000", 0}, {"5@999", 1000, 5, "5@999", 5}, {"1000000@1000", 0, 1000000, "0@1000", 0}, {"1000000@1000 1000000@1000", 0, 1000000, "0@1000 1000000@1000", 0},
		// Those with lesser Until go first, and of several ones those with lesser indices.
		{"30@5 20@3", 3, 20, "30@5 0@3", 0}, {"30@5 20@3", 3, 21, "29@5 0@3", 0}, {"30@5 20@3", 4, 21, "9@5 20@3", 0}, {"30@5 20@3", 0, 51, "0@5 0@3", 1}, {"30@5 20@3", 6, 51, "30@5 20@3", 51},
		{"3@7 3@7 3@7", 7, 4, "0@7 2@7 3@7", 0}, {"3@7 3@6 3@7 3@6", 5, 7, "2@7 0@6 3@7 0@6", 0}, {"3@7 3@6 3@7 3@6", 7, 7, "0@7 3@6 0@7 3@6", 1}, {"0@1 0@2 5@3", 1, 3, "0@1 0@2 2@3", 0}, {"9@9 8@8 7@7 6@6 5@5 4@4 3@3 2@2 1@1", 4, 20, "9@9 8@8 2@7 0@6 0@5 0@4 3@3 2@2 1@1", 0},
		{strings.Repeat("1@9 ", 11) + "1@8", 8, 5, "0@9 0@9 0@9 0@9 1@9 1@9 1@9 1@9 1@9 1@9 1@9 0@8", 0},
	} {
		left, rest, code := impl.PayVouchers(readVouchers(t, c.text), c.day, c.amount)
		is(t, show("paid", c.text, c.day, c.amount), show(c.want, c.rest, impl.OK), impl.VouchersText(left), rest, code)
	}
}

// P17: vouchers pay what is due, or are empty.
func TestVouchersAgainstAll(t *testing.T) {
	eachVouchers(2000, 12, 6, func(source *rand.Rand, list []impl.Voucher) {
		for day := range int64(8) {
			worth, lost := worthsByTrying(list, day)
			is(t, show("worth", list, day), show(worth, impl.OK), pack2(impl.WorthAt(list, day))...)
			is(t, show("lost", list, day), show(lost, impl.OK), pack2(impl.LostBy(list, day))...)
			amount := source.Int64N(worth + 5)
			want, rest := payByTrying(list, day, amount)
			is(t, show("paid", list, day, amount), show(want, rest, impl.OK), pack3(impl.PayVouchers(list, day, amount))...)
		}
	})
	eachVouchers(3000, 1000000, impl.MaxDays, func(source *rand.Rand, list []impl.Voucher) {
		day, amount := source.Int64N(impl.MaxDays+1), source.Int64N(1000001)
		worth, lost := worthsByTrying(list, day)
		left, rest, code := impl.PayVouchers(list, day, amount)
		is(t, show("code", list, day, amount), "0 true", code, impl.ValidVouchers(left))
		is(t, show("rest", list, day, amount), show(max(amount-worth, 0)), rest)
		behind, lostBehind := worthsByTrying(left, day)
		is(t, show("left", list, day, amount), show(max(worth-amount, 0), lost), behind, lostBehind)
		is(t, show("worth", list, day), show(worth, impl.OK), pack2(impl.WorthAt(list, day))...)
		is(t, show("lost", list, day), show(lost, impl.OK), pack2(impl.LostBy(list, day))...)
		checkPaid(t, list, left, day, amount)
	})
}

// checkPaid checks that vouchers change only if they are worth something on a day, and all that go before them are then empty.
func checkPaid(t *testing.T, list, left []impl.Voucher, day, amount int64) {
	t.Helper()
	is(t, show("length", list, day, amount), show(len(list)), len(left))
	for i, v := range list {
		if left[i].Until != v.Until || left[i].Amount > v.Amount {
			t.Fatalf("the voucher %v of %v is then %v", v, list, left[i])
		}
		if left[i].Amount == v.Amount {
			continue
		}
		for k, other := range left {
			goesBefore := other.Until < v.Until || other.Until == v.Until && k < i
			if int64(v.Until) < day || int64(other.Until) >= day && goesBefore && other.Amount > 0 {
				t.Fatalf("of the vouchers %v, %v has paid on the day %d before %v", list, v, day, other)
			}
		}
	}
}

func TestWorthAndLostAtTheEdges(t *testing.T) {
	const text = "5@3 7@0 11@3 13@1000 0@2"
	for day, want := range map[int64]string{0: "36 0 0 0", 1: "29 0 7 0", 3: "29 0 7 0", 4: "13 0 23 0", 999: "13 0 23 0", 1000: "13 0 23 0"} {
		list := readVouchers(t, text)
		is(t, show("worth and lost", day), want, append(pack2(impl.WorthAt(list, day)), pack2(impl.LostBy(list, day))...)...)
	}
	is(t, "none", "0 0 0 0", append(pack2(impl.WorthAt(nil, 5)), pack2(impl.LostBy(nil, 5))...)...)
	most := slices.Repeat([]impl.Voucher{{Amount: 1000000, Until: 500}}, 12)
	is(t, "most", "12000000 0 0 0", append(pack2(impl.WorthAt(most, 500)), pack2(impl.LostBy(most, 500))...)...)
	is(t, "most, lost", "0 0 12000000 0", append(pack2(impl.WorthAt(most, 501)), pack2(impl.LostBy(most, 501))...)...)
}

func TestFirstDayShort(t *testing.T) {
	for _, c := range []struct {
		text    string
		amounts []int64
		want    string
	}{
		{"", nil, "0 6"}, {"5@3", nil, "0 6"}, {"", []int64{0}, "0 6"}, {"", []int64{1}, "0 0"}, {"", []int64{0, 0, 1}, "2 0"}, {"5@3", []int64{5}, "0 6"}, {"5@3", []int64{6}, "0 0"}, {"5@3", []int64{1, 1, 1, 2}, "0 6"}, {"5@3", []int64{1, 1, 1, 3}, "3 0"},
		{"5@3", []int64{1, 1, 1, 1, 1}, "4 0"}, {"5@3", []int64{0, 0, 0, 0, 1}, "4 0"}, {"5@3", []int64{0, 0, 0, 0, 0, 0}, "0 6"}, {"30@5 20@3", []int64{15, 0, 0, 0, 31}, "4 0"}, {"30@5 20@3", []int64{15, 0, 0, 0, 30}, "0 6"}, {"30@5 20@3", []int64{15, 0, 0, 10, 30}, "4 0"},
		// What goes first is what ends first, so that the rest lasts.
		{"2@9 2@1", []int64{1, 1, 2}, "0 6"}, {"2@1 2@9", []int64{1, 1, 2}, "0 6"}, {"2@9 2@1", []int64{1, 1, 2, 1, 7}, "3 0"}, {"1000000@1000", []int64{1000000, 0, 1000000}, "2 0"},
		{"1@0 1@1 1@2 1@3", []int64{1, 1, 1, 1}, "0 6"}, {"1@0 1@1 1@2 1@3", []int64{1, 1, 1, 1, 0, 1}, "5 0"},
	} {
		is(t, show("short", c.text, c.amounts), c.want, pack2(impl.FirstDayShort(readVouchers(t, c.text), c.amounts))...)
	}
	ones := slices.Repeat([]int64{1}, 1000)
	for text, want := range map[string]string{"1000@1000": "0 6", "1000@999": "0 6", "1000@998": "999 0", "999@1000": "999 0", "500@1000 500@499": "0 6", "500@1000 500@498": "999 0"} {
		is(t, "a thousand days of "+text, want, pack2(impl.FirstDayShort(readVouchers(t, text), ones))...)
	}
	codes := map[int64]int{}
	eachVouchers(2000, 12, 8, func(source *rand.Rand, list []impl.Voucher) {
		amounts := []int64{}
		for range source.IntN(10) {
			amounts = append(amounts, source.Int64N(12))
		}
		want := show(0, impl.ErrNotFound)
		if day := shortByTrying(list, amounts); day >= 0 {
			want = show(day, impl.OK)
		}
		day, code := impl.FirstDayShort(list, amounts)
		is(t, show("short", list, amounts), want, day, code)
		codes[code]++
	})
	if codes[impl.OK] < 500 || codes[impl.ErrNotFound] < 500 {
		t.Errorf("the codes of days are %v", codes)
	}
}

// Vouchers are checked before all numbers, and too many amounts before what they are.
func TestErrorsOfVouchers(t *testing.T) {
	noAmounts := []int64{leastInt, -1, 1000001, 1 << 32, mostInt}
	tooMany := [][]int64{make([]int64, 1001), append(make([]int64, 1000), -1), append([]int64{mostInt}, make([]int64, 1000)...), make([]int64, 1000000)}
	for i, list := range invalidVouchers {
		for _, day := range append([]int64{0, 5, 1000}, noDays...) {
			is(t, show("worth", i, day), "0 1", pack2(impl.WorthAt(list, day))...)
			is(t, show("lost", i, day), "0 1", pack2(impl.LostBy(list, day))...)
			is(t, show("paid", i, day), "[] 0 1", pack3(impl.PayVouchers(list, day, 5))...)
			is(t, show("paid", i, day), "[] 0 1", pack3(impl.PayVouchers(list, 5, day))...)
		}
		for _, amounts := range append([][]int64{nil, {0}, {1}, {-1}}, tooMany...) {
			is(t, show("short", i), "0 1", pack2(impl.FirstDayShort(list, amounts))...)
		}
		is(t, show("text", i), "", impl.VouchersText(list))
	}
	for _, text := range []string{"", "30@5 20@3"} {
		list := readVouchers(t, text)
		for _, day := range noDays {
			is(t, show("worth", text, day), "0 2", pack2(impl.WorthAt(list, day))...)
			is(t, show("lost", text, day), "0 2", pack2(impl.LostBy(list, day))...)
			is(t, show("paid", text, day), "[] 0 2", pack3(impl.PayVouchers(list, day, 5))...)
			is(t, show("paid", text, day), "[] 0 2", pack3(impl.PayVouchers(list, day, -1))...)
		}
		for _, amount := range noAmounts {
			is(t, show("paid", text, amount), "[] 0 2", pack3(impl.PayVouchers(list, 5, amount))...)
			for _, amounts := range [][]int64{{amount}, {0, amount}, {1000000, 1000000, amount}, append(make([]int64, 999), amount), {amount, 1}} {
				is(t, show("short", text, amounts), "0 2", pack2(impl.FirstDayShort(list, amounts))...)
			}
		}
		for i, amounts := range tooMany {
			is(t, show("short", text, i), "0 3", pack2(impl.FirstDayShort(list, amounts))...)
		}
	}
}

func TestVouchersTextIsRead(t *testing.T) {
	for _, text := range []string{"", "0@0", "1000000@1000", "30@5 20@3", "1@1 1@1", "32768@5", "65536@7", strings.Repeat("1000000@1000 ", 11) + "999999@999"} {
		is(t, "text", text, impl.VouchersText(readVouchers(t, text)))
	}
	is(t, "vouchers", "[{30 5} {0 1000} {999999 0}] 0", pack2(impl.ReadVouchers("30@5 0@1000 999999@0"))...)
	is(t, "vouchers", "30@5 0@1000 999999@0", impl.VouchersText([]impl.Voucher{{Amount: 30, Until: 5}, {Until: 1000}, {Amount: 999999}}))
	is(t, "none", "[] 0 ", append(pack2(impl.ReadVouchers("")), impl.VouchersText(nil))...)
	for _, most := range []int{12, 1000000} {
		eachVouchers(500, most, impl.MaxDays, func(_ *rand.Rand, list []impl.Voucher) {
			is(t, show("read", list), show(list, impl.OK), pack2(impl.ReadVouchers(impl.VouchersText(list)))...)
		})
	}
}

func TestTextsOfNoVouchers(t *testing.T) {
	texts := []string{
		" ", "\n", "@", "x", "30", "30@", "@5", "30@5 ", " 30@5", "30@5  20@3", "30@5\n", "30@5\t20@3", "30@5,20@3", "30@5@1", "30@@5", "30 @5", "30@ 5", "30@5 20", "30@5 20@", "30@5 @3", "30x5", "30:5", "5 30@5",
		"030@5", "30@05", "00@5", "30@00", "+30@5", "30@+5", "-0@5", "30@-0", "-1@5", "30@-1", "1000001@5", "30@1001", "30@5 30@1001", "1000001@5 30@5", "3.0@5", "3e1@5", "3_0@5", "0x3@5", "30@5.",
		"4294967326@5", "-4294967266@5", "30@65541", "30@-65531", "65566@131077", "18446744073709551646@5", "30@18446744073709551621", "9223372036854775807@5", "9223372036854775808@5",
		strings.Repeat("1@1 ", 12) + "1@1", strings.Repeat("1@1 ", 12), "\u0663@5", "30\uff205", "30@5\u00a020@3", "30@5\x00", "\xff", "\ufeff30@5", "30@5 a@b",
		strings.Repeat("1@1 ", 249999) + "1@1", strings.Repeat("9", 1000000), strings.Repeat(" ", 1000000), strings.Repeat("@", 1000000), strings.Repeat("0", 999998) + "@1",
	}
	for _, text := range texts {
		is(t, show("text", text[:min(30, len(text))]), "[] 5", pack2(impl.ReadVouchers(text))...)
	}
}
