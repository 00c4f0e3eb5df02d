package tests

import (
	"slices"
	"strings"
	"testing"

	"loop.example/g01366/impl"
)

// read returns the stock of a text that has one.
func read(t *testing.T, text string) []impl.Stamp {
	t.Helper()
	stock, code := impl.ReadStock(text)
	if code != impl.OK {
		t.Fatalf("no stock is read from %q", text)
	}
	return stock
}

// invalidStocks are lists that are no stocks.
var invalidStocks = [][]impl.Stamp{
	{{Value: 0, Have: 1}}, {{Value: -1, Have: 1}}, {{Value: 501, Have: 1}}, {{Value: 32767, Have: 1}}, {{Value: -32768, Have: 1}},
	{{Value: 3, Have: -1}}, {{Value: 3, Have: 51}}, {{Value: 3, Have: 32767}}, {{Value: 3, Have: -32768}},
	{{Value: 3, Have: 1}, {Value: 3, Have: 1}}, {{Value: 5, Have: 1}, {Value: 3, Have: 1}}, {{Value: 3, Have: 1}, {Value: 5, Have: 51}},
	{{Value: 1}, {Value: 2}, {Value: 3}, {Value: 4}, {Value: 5}, {Value: 6}, {Value: 7}, {Value: 8}, {Value: 9}},
	make([]impl.Stamp, 1), make([]impl.Stamp, 1000000),
}

func TestValidStock(t *testing.T) {
	for _, stock := range [][]impl.Stamp{
		nil, {}, {{Value: 1, Have: 0}}, {{Value: 500, Have: 50}}, {{Value: 3, Have: 1}, {Value: 5, Have: 1}},
		{{Value: 1}, {Value: 2}, {Value: 3}, {Value: 4}, {Value: 5}, {Value: 6}, {Value: 7}, {Value: 8, Have: 50}},
	} {
		if !impl.ValidStock(stock) {
			t.Errorf("the stock %v is not valid", stock)
		}
	}
	for _, stock := range invalidStocks {
		if impl.ValidStock(stock) {
			t.Errorf("%d stamps are a valid stock: %v", len(stock), stock[:min(9, len(stock))])
		}
	}
}

func TestSameStock(t *testing.T) {
	lists := append([][]impl.Stamp{{}, {{Value: 3, Have: 1}}, {{Value: 3, Have: 2}}, {{Value: 5, Have: 1}},
		{{Value: 3, Have: 1}, {Value: 5, Have: 1}}, {{Value: 3, Have: 1}, {Value: 5}}}, invalidStocks...)
	for i, a := range lists {
		for k, b := range lists {
			if got := impl.SameStock(a, slices.Clone(b)); got != (i == k) {
				t.Errorf("lists %d and %d are told to be the same: %v", i, k, got)
			}
		}
	}
	if !impl.SameStock(nil, []impl.Stamp{}) || !impl.SameStock([]impl.Stamp{}, nil) {
		t.Error("no stamps are not the same as no stamps")
	}
}

func TestExampleOfStocks(t *testing.T) {
	is(t, "over", "[1 1] 8 0", pack3(impl.OverFrom(read(t, "3x1 5x1"), 7))...)
}

func TestStockValue(t *testing.T) {
	for text, want := range map[string]string{"": "0 0", "3x0": "0 0", "3x1 5x1": "8 0", "3x2 5x0 7x4": "34 0",
		"493x50 494x50 495x50 496x50 497x50 498x50 499x50 500x50": "198600 0"} {
		is(t, "value of "+text, want, pack2(impl.StockValue(read(t, text)))...)
	}
}

// smallStocks calls visit with stocks of up to three kinds with few stamps.
func smallStocks(visit func([]impl.Stamp)) {
	visit(nil)
	sets(6, 3, func(values []int64) {
		have := make([]int64, len(values))
		var fill func(i int)
		fill = func(i int) {
			if i == len(have) {
				visit(stockOf(values, have))
				return
			}
			for _, have[i] = range []int64{0, 1, 3} {
				fill(i + 1)
			}
		}
		fill(0)
	})
}

// P2: the counts of a stock pay just the postage, or the least amount over it, and no fewer stamps do.
func TestPayFromAndOverFromAgainstAll(t *testing.T) {
	const most = 20
	smallStocks(func(stock []impl.Stamp) {
		values, have := partsOf(stock)
		answers := allAnswers(values, have, 60)
		for postage := range int64(most) {
			pays := show([]int64{}, 0, impl.ErrNotFound)
			if a := answers[postage]; a.ways > 0 {
				pays = show(a.counts, a.stamps, impl.OK)
			}
			is(t, show("pay", stock, postage), pays, pack3(impl.PayFrom(stock, postage))...)
			over := show([]int64{}, 0, impl.ErrNotFound)
			if more := slices.IndexFunc(answers[postage:], func(a answer) bool { return a.ways > 0 }); more >= 0 {
				amount := postage + int64(more)
				over = show(answers[amount].counts, amount, impl.OK)
			}
			is(t, show("over", stock, postage), over, pack3(impl.OverFrom(stock, postage))...)
		}
	})
}

func TestPayFromAtTheEdges(t *testing.T) {
	for _, c := range []struct {
		text    string
		postage int64
		want    string
	}{
		{"", 0, "[] 0 0"},
		{"", 1, "[] 0 6"},
		{"3x0", 0, "[0] 0 0"},
		{"3x0", 3, "[] 0 6"},
		{"3x1 5x2 7x1", 10, "[0 2 0] 2 0"},
		{"3x1 5x1 7x1", 10, "[1 0 1] 2 0"},
		{"1x50 3x2 4x1", 6, "[0 2 0] 2 0"},
		{"1x50 3x1 4x1", 6, "[2 0 1] 3 0"},
		{"20x50", 1000, "[50] 50 0"},
		{"20x49", 1000, "[] 0 6"},
		{"1x50 2x50 3x50 4x50 5x50 6x50 7x50 8x50", 1000, "[0 0 0 0 0 43 50 49] 142 0"},
		{"499x50 500x50", 1000, "[0 2] 2 0"},
	} {
		is(t, show("pay", c.text, c.postage), c.want, pack3(impl.PayFrom(read(t, c.text), c.postage))...)
	}
}

func TestOverFromAtTheEdges(t *testing.T) {
	for _, c := range []struct {
		text    string
		postage int64
		want    string
	}{
		{"", 0, "[] 0 0"},
		{"", 1, "[] 0 6"},
		{"7x2", 0, "[0] 0 0"},
		{"7x0", 1, "[] 0 6"},
		{"3x1 5x1", 8, "[1 1] 8 0"},
		{"3x1 5x1", 9, "[] 0 6"},
		{"500x1", 1, "[1] 500 0"},
		{"300x4", 1000, "[4] 1200 0"},
		{"300x3", 1000, "[] 0 6"},
		{"499x2 500x1", 1000, "[2 1] 1498 0"},
		{"499x50", 999, "[3] 1497 0"},
		{"2x50 3x50 7x1", 1000, "[] 0 6"},
		{"5x2 6x1 8x1 10x1", 9, "[0 0 0 1] 10 0"},
		{"5x2 6x1 8x1 11x1", 9, "[2 0 0 0] 10 0"},
	} {
		is(t, show("over", c.text, c.postage), c.want, pack3(impl.OverFrom(read(t, c.text), c.postage))...)
	}
}

// P5: a stock loses what is taken, and nothing else.
func TestTakeFrom(t *testing.T) {
	for _, c := range []struct {
		text   string
		counts []int64
		want   string
	}{
		{"", nil, "|0"},
		{"", []int64{}, "|0"},
		{"3x1 5x1", []int64{0, 1}, "3x1 5x0|0"},
		{"3x1 5x1", []int64{0, 0}, "3x1 5x1|0"},
		{"3x50 5x7 500x50", []int64{50, 3, 1}, "3x0 5x4 500x49|0"},
		{"3x1 5x1", []int64{2, 0}, "|4"},
		{"3x1 5x1", []int64{0, 2}, "|4"},
		{"3x1 5x1", []int64{mostInt, 0}, "|4"},
		{"3x1 5x1", []int64{65536, 0}, "|4"},
		{"3x1 5x1", []int64{1}, "|2"},
		{"3x1 5x1", []int64{1, 0, 0}, "|2"},
		{"3x1 5x1", nil, "|2"},
		{"", []int64{0}, "|2"},
		{"3x1 5x1", []int64{-1, 0}, "|2"},
		{"3x1 5x1", []int64{0, leastInt}, "|2"},
		{"3x1 5x1", []int64{2, -1}, "|2"},
		{"3x1 5x1", []int64{2}, "|2"},
		{"3x1", make([]int64, 1000000), "|2"},
	} {
		left, code := impl.TakeFrom(read(t, c.text), c.counts)
		is(t, show("take", c.text, len(c.counts)), c.want, impl.StockText(left)+"|"+show(code))
		if code != impl.OK && len(left) > 0 {
			t.Errorf("with the code %d there is the stock %v", code, left)
		}
	}
}

// P5: what is paid and what is left are together what there was.
func TestWhatIsLeftAndPaid(t *testing.T) {
	smallStocks(func(stock []impl.Stamp) {
		for postage := range int64(12) {
			counts, _, code := impl.PayFrom(stock, postage)
			if code != impl.OK {
				continue
			}
			left, code := impl.TakeFrom(stock, counts)
			before, _ := impl.StockValue(stock)
			behind, _ := impl.StockValue(left)
			is(t, show("left", stock, postage), show(before-postage, impl.OK, len(stock)), behind, code, len(left))
			for i, stamp := range left {
				is(t, show("kind", stock, postage, i), show(stock[i].Value, int64(stock[i].Have)-counts[i]), stamp.Value, stamp.Have)
			}
		}
	})
}

// letterLists are letters that are paid from small stocks.
var letterLists = [][]int64{
	nil, {0}, {5}, {4, 4}, {9, 1, 3}, {3, 6, 2, 5}, {8, 3, 5}, {7, 7, 2, 1, 1, 4}, {1, 2, 3, 4, 5, 6}, {6, 5, 4, 3, 2, 1}, {0, 9, 0, 4, 4, 0}, {12, 2, 2, 12, 3, 3},
}

func TestLettersAgainstAll(t *testing.T) {
	smallStocks(func(stock []impl.Stamp) {
		for _, letters := range letterLists {
			left, sent := spendByTrying(stock, letters)
			got, paid, code := impl.SpendAll(stock, letters)
			is(t, show("spend", stock, letters), show(left, sent, impl.OK), got, paid, code)
			is(t, show("most", stock, letters), show(mostByTrying(stock, letters), impl.OK), pack2(impl.MostLetters(stock, letters))...)
		}
	})
}

func TestLettersAtTheEdges(t *testing.T) {
	for _, c := range []struct {
		text        string
		letters     []int64
		spend, most string
	}{
		{"", nil, "| [] 0", "[] 0"},
		{"", []int64{0, 1, 0}, "| [0 2] 0", "[0 2] 0"},
		{"3x1 5x1", []int64{3, 8, 5}, "3x0 5x0| [0 2] 0", "[0 2] 0"},
		{"3x1 5x1", []int64{8, 3, 5}, "3x0 5x0| [0] 0", "[1 2] 0"},
		{"5x1", []int64{5, 5, 5}, "5x0| [0] 0", "[0] 0"},
		{"2x3 3x2", []int64{6, 4, 2}, "2x0 3x0| [0 1 2] 0", "[0 1 2] 0"},
		{"500x50", []int64{1000, 1000, 500, 1000, 0, 1000}, "500x41| [0 1 2 3 4 5] 0", "[0 1 2 3 4 5] 0"},
		{"7x1", []int64{1, 2, 3, 4, 5, 6}, "7x1| [] 0", "[] 0"},
	} {
		left, sent, code := impl.SpendAll(read(t, c.text), c.letters)
		is(t, show("spend", c.text, c.letters), c.spend, impl.StockText(left)+"|", sent, code)
		is(t, show("most", c.text, c.letters), c.most, pack2(impl.MostLetters(read(t, c.text), c.letters))...)
	}
}

// A stock is checked before amounts, and these before all else; all other results are then zero.
func TestErrorsOfStocks(t *testing.T) {
	for _, stock := range invalidStocks {
		is(t, "invalid: value", "0 1", pack2(impl.StockValue(stock))...)
		is(t, "invalid: text", "", impl.StockText(stock))
		for _, n := range []int64{leastInt, -1, 0, 5, 1001, mostInt} {
			is(t, "invalid: pay", "[] 0 1", pack3(impl.PayFrom(stock, n))...)
			is(t, "invalid: over", "[] 0 1", pack3(impl.OverFrom(stock, n))...)
			for _, list := range [][]int64{nil, {n}, {n, 1}, {1, 1, 1, 1, 1, 1, n}} {
				is(t, "invalid: take", "[] 1", pack2(impl.TakeFrom(stock, list))...)
				is(t, "invalid: spend", "[] [] 1", pack3(impl.SpendAll(stock, list))...)
				is(t, "invalid: most", "[] 1", pack2(impl.MostLetters(stock, list))...)
			}
		}
	}
	stock := read(t, "3x1 5x1")
	for _, n := range []int64{leastInt, -1, 1001, mostInt} {
		is(t, "range: pay", "[] 0 2", pack3(impl.PayFrom(stock, n))...)
		is(t, "range: over", "[] 0 2", pack3(impl.OverFrom(stock, n))...)
		for _, list := range [][]int64{{n}, {n, 3}, {3, n}, {1, 1, 1, 1, 1, 1, 1, n}, append(make([]int64, 999999), n)} {
			is(t, "range: spend", "[] [] 2", pack3(impl.SpendAll(stock, list))...)
			is(t, "range: most", "[] 2", pack2(impl.MostLetters(stock, list))...)
		}
	}
	for _, list := range [][]int64{{3, 3, 3, 3, 3, 3, 3}, make([]int64, 7), make([]int64, 1000000)} {
		is(t, "limit: spend", "[] [] 3", pack3(impl.SpendAll(stock, list))...)
		is(t, "limit: most", "[] 3", pack2(impl.MostLetters(stock, list))...)
	}
}

func TestStockTextIsRead(t *testing.T) {
	smallStocks(func(stock []impl.Stamp) {
		text := impl.StockText(stock)
		back, code := impl.ReadStock(text)
		if code != impl.OK || !impl.SameStock(stock, back) {
			t.Errorf("%v is read as %v with the code %d", stock, back, code)
		}
	})
	for _, text := range []string{"", "1x0", "500x50", "3x1 5x1", "1x50 2x0 30x9 44x10 100x1 250x2 499x3 500x49"} {
		is(t, "text", text, impl.StockText(read(t, text)))
	}
	is(t, "stock", "[{3 1} {5 50}] 0", pack2(impl.ReadStock("3x1 5x50"))...)
}

func TestTextsOfNoStock(t *testing.T) {
	texts := []string{
		" ", "x", "3", "3x", "x3", "3x1x1", "3x1 ", " 3x1", "3x1  5x1", "3x1\t5x1", "3x1,5x1", "3x1\n", "3x1\n5x1", "3 x1", "3x 1",
		"03x1", "3x01", "3x00", "+3x1", "3x+1", "-3x1", "3x-1", "3x-0", "3X1", "3*1", "0x3x1", "3x1_0", "1_0x1", "3.0x1", "3x1e1", "\x00",
		"0x1", "501x1", "3x51", "65539x1", "3x65537", "-65533x1", "99999999999999999999x1", "3x18446744073709551617",
		"3x1 3x1", "5x1 3x1", "3x1 5x1 4x1", "1x1 2x1 3x1 4x1 5x1 6x1 7x1 8x1 9x1",
		"\u0663x1", "3\u00d71", "3x1\u00a05x1", "\xff", strings.Repeat("1x1 ", 250000), strings.Repeat("9", 1000000), strings.Repeat(" ", 1000000),
	}
	for _, text := range texts {
		is(t, show("text", text[:min(20, len(text))]), "[] 5", pack2(impl.ReadStock(text))...)
	}
}
