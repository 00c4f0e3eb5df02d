package tests

import (
	"math/rand/v2"
	"slices"
	"strings"
	"testing"

	"loop.example/g01366/impl"
)

// exampleClasses returns the classes of the document's example.
func exampleClasses() []impl.Class {
	return []impl.Class{{Num: 19, Den: 100}, {Num: 1, Den: 3, Gram: 2, Least: 50}}
}

// plain is a class with the least numbers, and full one with the greatest.
var (
	plain = impl.Class{Num: 0, Den: 1}
	full  = impl.Class{Num: 1000, Den: 1000, Gram: 100, Least: impl.MaxDeclared}
)

// invalidClasses are lists that are no classes.
var invalidClasses = [][]impl.Class{
	nil, {}, {{}}, {{Num: 1}}, {{Num: -1, Den: 1}}, {{Num: -32768, Den: 1}}, {{Num: 2, Den: 1}}, {{Num: 1000, Den: 999}}, {{Num: 0, Den: 0}}, {{Num: 0, Den: -1}}, {{Num: -2, Den: -1}},
	{{Num: 0, Den: 1001}}, {{Num: 1001, Den: 1001}}, {{Num: 0, Den: 32767}}, {{Num: 0, Den: -32768}},
	{{Den: 1, Gram: -1}}, {{Den: 1, Gram: 101}}, {{Den: 1, Gram: -32768}}, {{Den: 1, Gram: 32767}},
	{{Den: 1, Least: -1}}, {{Den: 1, Least: 1000001}}, {{Den: 1, Least: -2147483648}}, {{Den: 1, Least: 2147483647}},
	{plain, {Num: 2, Den: 1}}, {{Num: 0, Den: 0}, plain}, {plain, full, {Den: 1, Least: -1}, plain},
	slices.Repeat([]impl.Class{plain}, 9), slices.Repeat([]impl.Class{full}, 1000000),
}

// invalidForms are lists that are no form for two classes.
var invalidForms = [][]impl.Line{
	{{}}, {{Class: -1, Count: 1}}, {{Class: 2, Count: 1}}, {{Class: -128, Count: 1}}, {{Class: 127, Count: 1}},
	{{Count: 0}}, {{Count: -1}}, {{Count: 1001}}, {{Count: -32768}}, {{Count: 32767}},
	{{Count: 1, Value: -1}}, {{Count: 1, Value: 1000001}}, {{Count: 1, Value: -2147483648}}, {{Count: 1, Value: 2147483647}},
	{{Count: 1, Grams: -1}}, {{Count: 1, Grams: 1000001}}, {{Count: 1, Grams: -2147483648}}, {{Count: 1, Grams: 2147483647}},
	{{Count: 1}, {Count: 0}}, {{Class: 2, Count: 1}, {Count: 1}}, {{Count: 1}, {Class: 1, Count: 1}, {Class: 1, Count: 1, Value: 1000001}, {Count: 1}},
	slices.Repeat([]impl.Line{{Count: 1}}, 11), slices.Repeat([]impl.Line{{Count: 1}}, 1000000),
}

func TestLimitsOfCustoms(t *testing.T) {
	is(t, "limits", "8 10 1000000 1000000000", impl.MaxClasses, impl.MaxLines, impl.MaxDeclared, impl.MaxCents)
	is(t, "ways", "0 1 2 3", impl.RoDown, impl.RoUp, impl.RoNear, impl.RoEven)
}

func TestExampleOfCustoms(t *testing.T) {
	list := exampleClasses()
	one := readForm(t, list, "0:1x250/0\n")[0]
	for how, want := range []string{"47 0", "48 0", "48 0", "48 0"} {
		is(t, show("19/100 of 250", how), want, pack2(impl.DutyOfLine(list, one, int64(how)))...)
	}
	two := readForm(t, list, "1:2x10/5\n")[0]
	is(t, "at least 50", "50 0", pack2(impl.DutyOfLine(list, two, impl.RoDown))...)
	is(t, "3", "3 0", pack2(impl.RoundShare(10, 1, 3, impl.RoDown))...)
	twice := readForm(t, list, "0:1x250/0\n0:1x250/0\n")
	is(t, "twice", "96 0", pack2(impl.DutyOf(list, twice, impl.RoNear))...)
	is(t, "in all", "95 0", pack2(impl.DutyInAll(list, twice, impl.RoNear))...)
	is(t, "gap", "1 0", pack2(impl.RoundingGap(list, twice, impl.RoNear))...)
	is(t, "two forms", "[0 1] 2 0", pack3(impl.FewestForms(list, twice, 300))...)
	for _, how := range allWays {
		is(t, "without duty", "[0 1] 0 0", pack3(impl.LeastDuty(list, twice, 300, how))...)
	}
}

func TestValidClasses(t *testing.T) {
	for _, list := range [][]impl.Class{{plain}, {full}, exampleClasses(), {{Num: 1, Den: 1}}, {{Num: 0, Den: 1000}}, {plain, plain}, {{Num: 999, Den: 1000, Gram: 1, Least: 1}, full, plain}, slices.Repeat([]impl.Class{full, plain}, 4)} {
		if !impl.ValidClasses(list) {
			t.Errorf("classes %v are not valid", list)
		}
		if !impl.ValidForm(list, nil) || !impl.ValidForm(list, []impl.Line{}) {
			t.Errorf("no lines are not valid for classes %v", list)
		}
	}
	for i, list := range invalidClasses {
		if impl.ValidClasses(list) || impl.ValidForm(list, nil) || impl.ValidForm(list, []impl.Line{{Count: 1}}) {
			t.Errorf("the list %d is of valid classes", i)
		}
	}
}

func TestValidForm(t *testing.T) {
	list := exampleClasses()
	for _, form := range [][]impl.Line{
		{{Count: 1}}, {{Class: 1, Count: 1000, Value: 1000000, Grams: 1000000}}, {{Count: 1}, {Count: 1}, {Class: 1, Count: 2}, {Count: 1}},
		slices.Repeat([]impl.Line{{Class: 1, Count: 1000, Value: 1000000, Grams: 1000000}}, 10),
	} {
		if !impl.ValidForm(list, form) {
			t.Errorf("the form %v is not valid", form)
		}
	}
	for i, form := range invalidForms {
		if impl.ValidForm(list, form) {
			t.Errorf("the form %d is valid", i)
		}
	}
	if last := []impl.Line{{Class: 7, Count: 1}}; !impl.ValidForm(slices.Repeat(list, 4), last) || impl.ValidForm(slices.Repeat(list, 4)[:7], last) {
		t.Errorf("the class 7 is not that of 8 classes alone")
	}
}

func TestSameForm(t *testing.T) {
	forms := [][]impl.Line{
		{}, {{}}, {{}, {}}, {{Count: 1}}, {{Class: 1}}, {{Value: 1}}, {{Grams: 1}}, {{Class: 1, Count: 1}}, {{Count: 1}, {}}, {{}, {Count: 1}},
		{{Class: -128, Count: -1, Value: -1, Grams: -1}}, {{Class: 1, Count: 2, Value: 3, Grams: 4}}, {{Class: 1, Count: 2, Value: 4, Grams: 3}}, {{Class: 2, Count: 1, Value: 3, Grams: 4}},
		slices.Repeat([]impl.Line{{Count: 1}}, 11), slices.Repeat([]impl.Line{{Count: 1}}, 12),
	}
	for i, a := range forms {
		for k, b := range forms {
			if got := impl.SameForm(a, slices.Clone(b)); got != (i == k) {
				t.Errorf("the forms %v and %v are told to be the same: %v", a, b, got)
			}
		}
	}
	is(t, "no lines", "true true true", impl.SameForm(nil, []impl.Line{}), impl.SameForm([]impl.Line{}, nil), impl.SameForm(nil, nil))
}

func TestRoundShareAtTheEdges(t *testing.T) {
	for _, c := range []struct {
		amount, num, den int64
		want             string
	}{
		{0, 0, 1, "[0 0 0 0]"}, {0, 1000, 1, "[0 0 0 0]"}, {7, 0, 1000, "[0 0 0 0]"}, {7, 1, 1, "[7 7 7 7]"}, {7, 1000, 1, "[7000 7000 7000 7000]"}, {6, 1, 3, "[2 2 2 2]"},
		{1, 1, 2, "[0 1 1 0]"}, {3, 1, 2, "[1 2 2 2]"}, {5, 1, 2, "[2 3 3 2]"}, {7, 1, 2, "[3 4 4 4]"}, {5, 3, 2, "[7 8 8 8]"}, {3, 3, 2, "[4 5 5 4]"},
		{1, 1, 3, "[0 1 0 0]"}, {2, 1, 3, "[0 1 1 1]"}, {4, 1, 3, "[1 2 1 1]"}, {5, 1, 3, "[1 2 2 2]"},
		{1, 1, 4, "[0 1 0 0]"}, {2, 1, 4, "[0 1 1 0]"}, {3, 1, 4, "[0 1 1 1]"}, {6, 1, 4, "[1 2 2 2]"}, {10, 1, 4, "[2 3 3 2]"},
		{250, 19, 100, "[47 48 48 48]"}, {1, 499, 1000, "[0 1 0 0]"}, {1, 500, 1000, "[0 1 1 0]"}, {1, 501, 1000, "[0 1 1 1]"}, {1, 499, 999, "[0 1 0 0]"}, {1, 500, 999, "[0 1 1 1]"},
		{1000000000, 1000, 1, "[1000000000000 1000000000000 1000000000000 1000000000000]"}, {1000000000, 1000, 999, "[1001001001 1001001002 1001001001 1001001001]"}, {999999999, 1, 2, "[499999999 500000000 500000000 500000000]"},
		{999999997, 1, 2, "[499999998 499999999 499999999 499999998]"}, {1000000000, 1, 1000, "[1000000 1000000 1000000 1000000]"}, {1000000000, 0, 1, "[0 0 0 0]"},
	} {
		got := []int64{}
		for _, how := range allWays {
			share, code := impl.RoundShare(c.amount, c.num, c.den, how)
			is(t, show("code", c.amount, c.num, c.den, how), "0", code)
			got = append(got, share)
		}
		is(t, show("shares", c.amount, c.num, c.den), c.want, got)
	}
}

// Shares are as each way tells; rounding up is never less than rounding down, and by no more than 1, and the others are one of both.
func TestRoundShareAgainstAll(t *testing.T) {
	check := func(amount, num, den int64) {
		var shares [4]int64
		for i, how := range allWays {
			share, code := impl.RoundShare(amount, num, den, how)
			shares[i] = share
			is(t, show("share", amount, num, den, how), "true 0", isShare(share, amount, num, den, how), code)
		}
		down, up := shares[impl.RoDown], shares[impl.RoUp]
		is(t, show("up and down", amount, num, den), "true", up == down && amount*num%den == 0 || up == down+1)
		for _, share := range shares {
			is(t, show("one of both", amount, num, den), "true", share == down || share == up)
		}
	}
	for amount := range int64(13) {
		for num := range int64(9) {
			for den := int64(1); den < 9; den++ {
				check(amount, num, den)
			}
		}
	}
	source := rand.New(rand.NewPCG(5, 5))
	for range 5000 {
		check(source.Int64N(impl.MaxCents+1), source.Int64N(1001), 1+source.Int64N(1000))
		check(source.Int64N(2000), source.Int64N(1001), 1+source.Int64N(1000))
		check(source.Int64N(impl.MaxCents+1), source.Int64N(10), 2*(1+source.Int64N(4)))
	}
}

// All numbers are checked before den is found to be 0.
func TestErrorsOfRoundShare(t *testing.T) {
	for _, n := range []int64{leastInt, -1, 1001, 1 << 32, mostInt} {
		is(t, show("num", n), "0 2", pack2(impl.RoundShare(1, n, 1, impl.RoUp))...)
		is(t, show("den", n), "0 2", pack2(impl.RoundShare(1, 1, n, impl.RoUp))...)
		is(t, show("num ahead of den", n), "0 2", pack2(impl.RoundShare(1, n, 0, impl.RoUp))...)
	}
	for _, amount := range []int64{leastInt, -1, 1000000001, mostInt} {
		is(t, show("amount", amount), "0 2", pack2(impl.RoundShare(amount, 1, 1, impl.RoUp))...)
		is(t, show("amount ahead of den", amount), "0 2", pack2(impl.RoundShare(amount, 1, 0, impl.RoUp))...)
	}
	for _, how := range noWays {
		is(t, show("way", how), "0 2", pack2(impl.RoundShare(1, 1, 1, how))...)
		is(t, show("way ahead of den", how), "0 2", pack2(impl.RoundShare(1, 1, 0, how))...)
	}
	for _, how := range allWays {
		is(t, show("den", how), "0 4", pack2(impl.RoundShare(1, 1, 0, how))...)
		is(t, show("den of nothing", how), "0 4", pack2(impl.RoundShare(0, 0, 0, how))...)
		is(t, show("den of most", how), "0 4", pack2(impl.RoundShare(impl.MaxCents, 1000, 0, how))...)
	}
}

func TestDutyOfLineAtTheEdges(t *testing.T) {
	for _, c := range []struct {
		class impl.Class
		text  string
		want  string
	}{
		{plain, "0:1x0/0\n", "[0 0 0 0]"}, {plain, "0:1000x1000000/1000000\n", "[0 0 0 0]"}, {full, "0:1x0/0\n", "[1000000 1000000 1000000 1000000]"},
		{full, "0:1x1000000/1000000\n", "[101000000 101000000 101000000 101000000]"},
		{impl.Class{Num: 1, Den: 2, Gram: 3}, "0:9x5/7\n", "[23 24 24 23]"}, {impl.Class{Num: 1, Den: 2, Gram: 3, Least: 23}, "0:9x5/7\n", "[23 24 24 23]"},
		{impl.Class{Num: 1, Den: 2, Gram: 3, Least: 24}, "0:9x5/7\n", "[24 24 24 24]"}, {impl.Class{Num: 1, Den: 2, Gram: 3, Least: 25}, "0:9x5/7\n", "[25 25 25 25]"},
		// The least duty is held against both parts together.
		{impl.Class{Num: 1, Den: 2, Gram: 1, Least: 10}, "0:1x12/6\n", "[12 12 12 12]"}, {impl.Class{Num: 1, Den: 2, Gram: 1, Least: 10}, "0:1x2/8\n", "[10 10 10 10]"},
		{impl.Class{Num: 0, Den: 7, Gram: 100}, "0:1x1000000/3\n", "[300 300 300 300]"}, {impl.Class{Num: 999, Den: 1000}, "0:1x1/0\n", "[0 1 1 1]"},
	} {
		list := []impl.Class{c.class}
		got := []int64{}
		for _, how := range allWays {
			duty, code := impl.DutyOfLine(list, readForm(t, list, c.text)[0], how)
			is(t, show("code", c.class, c.text, how), "0", code)
			got = append(got, duty)
		}
		is(t, show("duties", c.class, c.text), c.want, got)
	}
}

// P13: the duty of a form is the sum of its lines, each one rounded, and at least the least duty, by itself.
func TestDutyIsTheSumOfLines(t *testing.T) {
	for _, kind := range []customs{small, large, mixed} {
		kind.each(func(list []impl.Class, form []impl.Line) {
			is(t, show("worth", form), show(worthByTrying(form), impl.OK), pack2(impl.WorthOf(list, form))...)
			for _, how := range allWays {
				duties := dutiesByTrying(list, form, how)
				is(t, show("duty", list, form, how), show(totalOf(duties), impl.OK), pack2(impl.DutyOf(list, form, how))...)
				for i, l := range form {
					is(t, show("line", list, l, how), show(duties[i], impl.OK), pack2(impl.DutyOfLine(list, l, how))...)
				}
				inAll := inAllByTrying(list, form, how)
				is(t, show("in all", list, form, how), show(inAll, impl.OK), pack2(impl.DutyInAll(list, form, how))...)
				is(t, show("gap", list, form, how), show(totalOf(duties)-inAll, impl.OK), pack2(impl.RoundingGap(list, form, how))...)
			}
		})
	}
}

// P13: rounding up a form is never less than rounding it down, and by no more than 1 for each line.
func TestDutyUpAndDown(t *testing.T) {
	for _, kind := range []customs{small, large, mixed} {
		kind.each(func(list []impl.Class, form []impl.Line) {
			down, _ := impl.DutyOf(list, form, impl.RoDown)
			up, _ := impl.DutyOf(list, form, impl.RoUp)
			is(t, show("up and down", list, form), "true true", down <= up, up <= down+int64(len(form)))
		})
	}
}

func TestDutyInAllAtTheEdges(t *testing.T) {
	list := []impl.Class{{Num: 1, Den: 2}, {Num: 1, Den: 2}, {Num: 1, Den: 3, Gram: 1, Least: 10}, full}
	for _, c := range []struct {
		text             string
		how              int64
		byLine, all, gap string
	}{
		{"", impl.RoUp, "0 0", "0 0", "0 0"},
		{"0:1x1/0\n0:1x1/0\n", impl.RoUp, "2 0", "1 0", "1 0"},
		{"0:1x1/0\n0:1x1/0\n", impl.RoDown, "0 0", "1 0", "-1 0"},
		// Classes that charge the same are not taken together.
		{"0:1x1/0\n1:1x1/0\n", impl.RoUp, "2 0", "2 0", "0 0"},
		{"0:1x1/0\n1:1x1/0\n", impl.RoDown, "0 0", "0 0", "0 0"},
		{"0:1x1/0\n1:1x1/0\n0:1x2/0\n1:1x2/0\n", impl.RoNear, "4 0", "4 0", "0 0"},
		{"0:1x1/0\n1:1x1/0\n0:1x1/0\n1:1x1/0\n", impl.RoEven, "0 0", "2 0", "-2 0"},
		// The least duty is that of the lines, or of the class that has some, and not of one that has none.
		{"2:1x0/0\n2:1x0/0\n", impl.RoDown, "20 0", "10 0", "10 0"},
		{"2:1x0/9\n2:1x3/3\n", impl.RoDown, "20 0", "13 0", "7 0"},
		{"2:1x2/6\n2:1x2/6\n", impl.RoDown, "20 0", "13 0", "7 0"},
		{"3:1x0/0\n3:1x0/0\n3:1x0/0\n", impl.RoDown, "3000000 0", "1000000 0", "2000000 0"},
		// The sums are not in the bounds of a line.
		{strings.Repeat("3:1000x1000000/1000000\n", 10), impl.RoUp, "1010000000 0", "1010000000 0", "0 0"},
		{strings.Repeat("0:1000x999999/1000000\n", 10), impl.RoUp, "5000000 0", "4999995 0", "5 0"},
	} {
		form := readForm(t, list, c.text)
		is(t, show("by line", c.text, c.how), c.byLine, pack2(impl.DutyOf(list, form, c.how))...)
		is(t, show("in all", c.text, c.how), c.all, pack2(impl.DutyInAll(list, form, c.how))...)
		is(t, show("gap", c.text, c.how), c.gap, pack2(impl.RoundingGap(list, form, c.how))...)
	}
}

func TestSumsOfForms(t *testing.T) {
	list := exampleClasses()
	for text, want := range map[string]string{
		"": "0 0 0 0", "0:7x5/3\n": "5 0 3 0", "0:1x0/0\n": "0 0 0 0", "0:1x2/30\n1:4x500/6000\n0:1x2/30\n": "504 0 6060 0",
		strings.Repeat("1:1x1000000/999999\n", 10): "10000000 0 9999990 0",
	} {
		form := readForm(t, list, text)
		is(t, "sums of "+text, want, append(pack2(impl.WorthOf(list, form)), pack2(impl.GramsOf(list, form))...)...)
	}
}

// Merged lines have the same worth, and the same grams.
func TestMergeLinesAgainstAll(t *testing.T) {
	codes := map[int64]int{}
	for _, kind := range []customs{small, large, mixed} {
		kind.each(func(list []impl.Class, form []impl.Line) {
			want, within := mergedByTrying(list, form)
			merged, code := impl.MergeLines(list, form)
			codes[code]++
			if !within {
				is(t, show("merged", list, form), show([]int{}, impl.ErrLimit), merged, code)
				return
			}
			is(t, show("merged", list, form), show(want, impl.OK), merged, code)
			is(t, show("worth", list, form), show(pack2(impl.WorthOf(list, form))...), pack2(impl.WorthOf(list, merged))...)
			is(t, show("grams", list, form), show(pack2(impl.GramsOf(list, form))...), pack2(impl.GramsOf(list, merged))...)
			for _, how := range allWays {
				is(t, show("duty", list, form), show(pack2(impl.DutyInAll(list, form, how))...), pack2(impl.DutyOf(list, merged, how))...)
			}
		})
	}
	if codes[impl.OK] < 100 || codes[impl.ErrLimit] < 100 {
		t.Errorf("the codes of merged lines are %v", codes)
	}
}

func TestMergeLinesAtTheEdges(t *testing.T) {
	list := slices.Repeat([]impl.Class{plain}, 8)
	for text, want := range map[string]string{
		"":                                     "",
		"7:1x2/3\n":                            "7:1x2/3\n",
		"1:1x2/3\n0:4x5/6\n":                   "0:4x5/6\n1:1x2/3\n",
		"7:1x1/1\n0:1x1/1\n7:2x3/4\n":          "0:1x1/1\n7:3x4/5\n",
		"0:1x0/0\n0:999x0/0\n":                 "0:1000x0/0\n",
		"0:1x1/0\n0:1x999999/0\n":              "0:2x1000000/0\n",
		"0:1x0/1\n0:1x0/999999\n":              "0:2x0/1000000\n",
		"0:1x0/0\n0:1000x0/0\n":                "-",
		"0:1x1/0\n0:1x1000000/0\n":             "-",
		"0:1x0/1\n0:1x0/1000000\n":             "-",
		"1:1x1/1\n0:1x0/0\n0:1000x0/0\n":       "-",
		"0:1x1/1\n7:1x0/0\n7:1000x0/0\n":       "-",
		strings.Repeat("3:1000x0/0\n", 10):     "-",
		"0:500x0/0\n1:501x0/0\n0:500x0/0\n":    "0:1000x0/0\n1:501x0/0\n",
		strings.Repeat("3:100x9/100000\n", 10): "3:1000x90/1000000\n",
		"7:1x7/7\n6:1x6/6\n5:1x5/5\n4:1x4/4\n3:1x3/3\n2:1x2/2\n1:1x1/1\n0:1x0/0\n7:1x0/0\n0:1x0/0\n": "0:2x0/0\n1:1x1/1\n2:1x2/2\n3:1x3/3\n4:1x4/4\n5:1x5/5\n6:1x6/6\n7:2x7/7\n",
	} {
		merged, code := impl.MergeLines(list, readForm(t, list, text))
		if want == "-" {
			is(t, "merged "+text, show([]int{}, impl.ErrLimit), merged, code)
		} else {
			is(t, "merged "+text, show(want, impl.OK), impl.FormText(list, merged), code)
		}
	}
}

func TestUnitValue(t *testing.T) {
	list := exampleClasses()
	for text, want := range map[string]string{
		"0:1x0/0\n": "0 0", "0:1x7/9\n": "7 0", "0:2x7/9\n": "3 0", "1:7x7/9\n": "1 0", "0:8x7/9\n": "0 0", "0:1000x1000000/0\n": "1000 0", "0:1000x999999/0\n": "999 0", "0:1x1000000/0\n": "1000000 0", "0:3x1000000/0\n": "333333 0",
	} {
		is(t, "unit of "+text, want, pack2(impl.UnitValue(list, readForm(t, list, text)[0]))...)
	}
}

func TestFirstOdd(t *testing.T) {
	list := exampleClasses()
	const text = "0:2x7/0\n1:1x4/0\n0:3x6/0\n"
	for _, c := range []struct {
		text      string
		low, high int64
		want      string
	}{
		{"", 0, 0, "0 6"}, {text, 0, 1000000, "0 6"}, {text, 2, 4, "0 6"}, {text, 2, 3, "1 0"}, {text, 3, 4, "2 0"}, {text, 4, 4, "0 0"}, {text, 3, 3, "1 0"}, {text, 0, 0, "0 0"}, {text, 1000000, 1000000, "0 0"}, {text, 0, 2, "0 0"},
		{text, 2, 1000000, "0 6"}, {text, 4, 1000000, "0 0"}, {"0:2x7/0\n", 3, 3, "0 6"}, {"0:1x1000000/0\n", 1000000, 1000000, "0 6"}, {"0:1x1000000/0\n", 0, 999999, "0 0"}, {"0:1000x999/0\n", 0, 0, "0 6"}, {"0:1000x999/0\n", 1, 1, "0 0"},
	} {
		is(t, show("odd", c.text, c.low, c.high), c.want, pack2(impl.FirstOdd(list, readForm(t, list, c.text), c.low, c.high))...)
	}
	small.each(func(list []impl.Class, form []impl.Line) {
		for low := range int64(6) {
			for high := low; high < 8; high++ {
				i := slices.IndexFunc(form, func(l impl.Line) bool {
					unit := (int(l.Value) - int(l.Value)%int(l.Count)) / int(l.Count)
					return unit < int(low) || unit > int(high)
				})
				want := show(i, impl.OK)
				if i < 0 {
					want = show(0, impl.ErrNotFound)
				}
				is(t, show("odd", form, low, high), want, pack2(impl.FirstOdd(list, form, low, high))...)
			}
		}
	})
}

func TestFormTextIsRead(t *testing.T) {
	list := slices.Repeat(exampleClasses(), 4)
	for _, text := range []string{"", "0:1x0/0\n", "7:1000x1000000/1000000\n", "0:1x250/0\n0:1x250/0\n", "1:2x10/5\n", "3:10x100/1000\n2:20x0/7\n3:10x100/1000\n", strings.Repeat("7:999x999999/10\n", 10)} {
		is(t, "text", text, impl.FormText(list, readForm(t, list, text)))
	}
	is(t, "form", "[{1 2 10 5} {0 1000 0 7}] 0", pack2(impl.ReadForm(list, "1:2x10/5\n0:1000x0/7\n"))...)
	is(t, "form", "1:2x10/5\n0:1000x0/7\n", impl.FormText(list, []impl.Line{{Class: 1, Count: 2, Value: 10, Grams: 5}, {Count: 1000, Grams: 7}}))
	is(t, "no lines", "[] 0", pack2(impl.ReadForm(list, ""))...)
	for _, kind := range []customs{small, large, mixed} {
		kind.each(func(list []impl.Class, form []impl.Line) {
			is(t, show("read", form), show(form, impl.OK), pack2(impl.ReadForm(list, impl.FormText(list, form)))...)
		})
	}
}

func TestTextsOfNoForm(t *testing.T) {
	list := exampleClasses()
	texts := []string{
		"\n", "x", " ", ":", "/", "0:1x2/3", "0:1x2/3\n\n", "\n0:1x2/3\n", "0:1x2/3\n\n0:1x2/3\n", "0:1x2/3\n0:1x2/3", "0:1x2/3\r\n", "0:1x2/3\r", " 0:1x2/3\n", "0:1x2/3 \n", "0: 1x2/3\n", "0:1 x2/3\n", "0:1x2 / 3\n", "0:1x2/3 0:1x2/3\n",
		"0:1x2\n", "0:1x2/\n", "0:1x/3\n", "0:x2/3\n", ":1x2/3\n", "1x2/3\n", "0:1/3\n", "0:2/3\n", "0x1:2/3\n", "0:1x2:3\n", "0:1/2x3\n", "0:1x2/3/4\n", "0:1x2x3/4\n", "0:0:1x2/3\n", "0;1x2/3\n", "0:1X2/3\n", "0:1x2/3,\n", "0-1x2/3\n",
		"00:1x2/3\n", "0:01x2/3\n", "0:1x02/3\n", "0:1x2/03\n", "+0:1x2/3\n", "-0:1x2/3\n", "0:+1x2/3\n", "0:1x+2/3\n", "0:1x2/+3\n", "0:1x-0/3\n", "0:1x2/-0\n", "0:1x2/-3\n", "0:-1x2/3\n", "0:1x-2/3\n", "-1:1x2/3\n",
		"0:1x2.0/3\n", "0:1x1e3/3\n", "0:1x1_0/3\n", "0:1x0x2/3\n", "2:1x2/3\n", "127:1x2/3\n", "0:0x2/3\n", "0:1001x2/3\n", "0:1x1000001/3\n", "0:1x2/1000001\n",
		"256:1x2/3\n", "-256:1x2/3\n", "257:1x2/3\n", "0:65537x2/3\n", "0:-65535x2/3\n", "0:1x4294967298/3\n", "0:1x-4294967294/3\n", "0:1x2/4294967299\n", "0:1x2/18446744073709551619\n", "18446744073709551616:1x2/3\n",
		strings.Repeat("0:1x2/3\n", 11), strings.Repeat("0:1x2/3\n", 10) + "0", "0:1x2/3\n2:1x2/3\n", "2:1x2/3\n0:1x2/3\n", "\u0660:1x2/3\n", "0:\uff11x2/3\n", "0:1\u00d72/3\n", "0:1x2/3\u2028", "0:1x2/3\x00\n", "\xff", "\ufeff0:1x2/3\n",
		strings.Repeat("0:1x2/3\n", 125000), strings.Repeat("9", 1000000), strings.Repeat("\n", 1000000), strings.Repeat(":", 1000000), "0:1x2/" + strings.Repeat("0", 1000000) + "\n",
	}
	for _, text := range texts {
		is(t, show("text", text[:min(30, len(text))]), "[] 5", pack2(impl.ReadForm(list, text))...)
	}
}

// Classes, forms and lines are checked before numbers; all other results are then zero.
func TestErrorsOfCustoms(t *testing.T) {
	line := impl.Line{Count: 1, Value: 1000000}
	for i, list := range invalidClasses {
		checkInvalid(t, show("classes", i), list, nil)
		checkInvalid(t, show("classes and line", i), list, []impl.Line{line})
		checkInvalidLine(t, show("classes", i), list, line)
		for _, n := range []int64{leastInt, -1, 0, 1000001, mostInt} {
			is(t, show("invalid: dearest", i), "0 0 1", pack3(impl.DearestClass(list, n, 0, impl.RoUp))...)
			is(t, show("invalid: dearest", i), "0 0 1", pack3(impl.DearestClass(list, 0, n, impl.RoUp))...)
			is(t, show("invalid: dearest", i), "0 0 1", pack3(impl.DearestClass(list, 0, 0, n))...)
		}
		for _, text := range []string{"", "x", "0:1x2/3\n", "0:1x2/3"} {
			is(t, show("invalid: read", i, text), "[] 1", pack2(impl.ReadForm(list, text))...)
		}
	}
	for i, form := range invalidForms {
		checkInvalid(t, show("form", i), exampleClasses(), form)
		if len(form) == 1 {
			checkInvalidLine(t, show("line", i), exampleClasses(), form[0])
		}
	}
}

// checkInvalid checks all functions of a form that is not valid for classes.
func checkInvalid(t *testing.T, name string, list []impl.Class, form []impl.Line) {
	t.Helper()
	is(t, name+": worth", "0 1", pack2(impl.WorthOf(list, form))...)
	is(t, name+": grams", "0 1", pack2(impl.GramsOf(list, form))...)
	is(t, name+": merge", "[] 1", pack2(impl.MergeLines(list, form))...)
	is(t, name+": text", "", impl.FormText(list, form))
	for _, n := range []int64{leastInt, -1, 0, 1, 4, 300, 1000001, mostInt} {
		is(t, name+": duty", "0 1", pack2(impl.DutyOf(list, form, n))...)
		is(t, name+": in all", "0 1", pack2(impl.DutyInAll(list, form, n))...)
		is(t, name+": gap", "0 1", pack2(impl.RoundingGap(list, form, n))...)
		is(t, name+": allowance", "0 1", pack2(impl.WithAllowance(list, form, n, 0))...)
		is(t, name+": allowance", "0 1", pack2(impl.WithAllowance(list, form, 0, n))...)
		is(t, name+": fewest", "[] 0 1", pack3(impl.FewestForms(list, form, n))...)
		is(t, name+": least", "[] 0 1", pack3(impl.LeastDuty(list, form, n, 0))...)
		is(t, name+": least", "[] 0 1", pack3(impl.LeastDuty(list, form, 0, n))...)
		is(t, name+": odd", "0 1", pack2(impl.FirstOdd(list, form, n, 5))...)
		is(t, name+": odd", "0 1", pack2(impl.FirstOdd(list, form, 5, n))...)
	}
}

// checkInvalidLine checks all functions of a line that is not valid for classes.
func checkInvalidLine(t *testing.T, name string, list []impl.Class, l impl.Line) {
	t.Helper()
	is(t, name+": unit", "0 1", pack2(impl.UnitValue(list, l))...)
	for _, how := range append(noWays, allWays...) {
		is(t, name+": duty of line", "0 1", pack2(impl.DutyOfLine(list, l, how))...)
	}
}

func TestNumbersOutOfRange(t *testing.T) {
	list := exampleClasses()
	for _, text := range []string{"", "0:1x250/0\n", strings.Repeat("1:1000x1000000/1000000\n", 10)} {
		form := readForm(t, list, text)
		for _, how := range noWays {
			is(t, show("way: duty", how), "0 2", pack2(impl.DutyOf(list, form, how))...)
			is(t, show("way: in all", how), "0 2", pack2(impl.DutyInAll(list, form, how))...)
			is(t, show("way: gap", how), "0 2", pack2(impl.RoundingGap(list, form, how))...)
		}
		for _, n := range []int64{leastInt, -1, 1000001, 1 << 32, mostInt} {
			is(t, show("low", n), "0 2", pack2(impl.FirstOdd(list, form, n, 1000000))...)
			is(t, show("high", n), "0 2", pack2(impl.FirstOdd(list, form, 0, n))...)
			is(t, show("both", n), "0 2", pack2(impl.FirstOdd(list, form, n, n))...)
		}
		is(t, "low over high", "0 2", pack2(impl.FirstOdd(list, form, 1, 0))...)
		is(t, "low over high", "0 2", pack2(impl.FirstOdd(list, form, 1000000, 999999))...)
	}
	for _, how := range noWays {
		is(t, show("way: line", how), "0 2", pack2(impl.DutyOfLine(list, impl.Line{Class: 1, Count: 1}, how))...)
		is(t, show("way: dearest", how), "0 0 2", pack3(impl.DearestClass(list, 1, 1, how))...)
	}
	for _, n := range []int64{leastInt, -1, 1000001, 1 << 32, mostInt} {
		is(t, show("value: dearest", n), "0 0 2", pack3(impl.DearestClass(list, n, 0, impl.RoUp))...)
		is(t, show("grams: dearest", n), "0 0 2", pack3(impl.DearestClass(list, 0, n, impl.RoUp))...)
	}
}
