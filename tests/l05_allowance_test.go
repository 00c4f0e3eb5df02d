package tests

import (
	"math/rand/v2"
	"slices"
	"strings"
	"testing"

	"loop.example/g01366/impl"
)

// formOf returns a form with lines of such values, all of the class 0.
func formOf(values ...int32) []impl.Line {
	form := []impl.Line{}
	for _, value := range values {
		form = append(form, impl.Line{Count: 1, Value: value})
	}
	return form
}

func TestWithAllowance(t *testing.T) {
	list := exampleClasses()
	for _, c := range []struct {
		text      string
		allowance int64
		how       int64
		want      string
	}{
		{"", 0, impl.RoUp, "0 0"}, {"", 1000000, impl.RoUp, "0 0"}, {"1:1x0/1000000\n", 0, impl.RoUp, "0 0"}, {"1:1x1/0\n", 0, impl.RoUp, "50 0"}, {"1:1x1/0\n", 1, impl.RoUp, "0 0"},
		{"0:1x250/0\n", 249, impl.RoDown, "47 0"}, {"0:1x250/0\n", 249, impl.RoUp, "48 0"}, {"0:1x250/0\n", 250, impl.RoUp, "0 0"}, {"0:1x250/0\n", 251, impl.RoUp, "0 0"},
		{"0:1x250/0\n0:1x250/0\n", 499, impl.RoNear, "96 0"}, {"0:1x250/0\n0:1x250/0\n", 500, impl.RoNear, "0 0"}, {"0:1x250/0\n0:1x250/0\n", 300, impl.RoDown, "94 0"},
		{"0:1x1000000/0\n", 1000000, impl.RoUp, "0 0"}, {"0:1x1000000/0\n0:1x1/0\n", 1000000, impl.RoUp, "190001 0"}, {"0:1x1000000/0\n0:1x0/0\n", 1000000, impl.RoUp, "0 0"},
	} {
		is(t, show("allowance", c.text, c.allowance, c.how), c.want, pack2(impl.WithAllowance(list, readForm(t, list, c.text), c.allowance, c.how))...)
	}
	small.each(func(list []impl.Class, form []impl.Line) {
		worth := worthByTrying(form)
		for _, how := range allWays {
			for _, allowance := range []int64{0, worth - 1, worth, worth + 1, worth / 2, impl.MaxDeclared} {
				want := totalOf(dutiesByTrying(list, form, how))
				if worth <= allowance {
					want = 0
				}
				if allowance >= 0 {
					is(t, show("allowance", list, form, allowance, how), show(want, impl.OK), pack2(impl.WithAllowance(list, form, allowance, how))...)
				}
			}
		}
	})
}

// checkForms checks the fewest forms, and those with the least duty, against all lists of numbers, and counts the codes of the first ones.
func checkForms(t *testing.T, list []impl.Class, form []impl.Line, allowance, how int64, codes map[int64]int) {
	t.Helper()
	want := show([]int64{}, 0, impl.ErrNotFound)
	if best, fewest := fewestFormsByTrying(form, allowance); fewest >= 0 {
		want = show(best, fewest, impl.OK)
	}
	numbers, count, code := impl.FewestForms(list, form, allowance)
	is(t, show("fewest", form, allowance), want, numbers, count, code)
	codes[code]++
	best, least := leastDutyByTrying(list, form, allowance, how)
	is(t, show("least", list, form, allowance, how), show(best, least, impl.OK), pack3(impl.LeastDuty(list, form, allowance, how))...)
}

// P14: no forms are better than the ones that are told, and none that are as good come before them.
func TestFormsAgainstAll(t *testing.T) {
	source := rand.New(rand.NewPCG(6, 6))
	codes := map[int64]int{}
	for _, kind := range []customs{
		{forms: 200, lines: 5, den: 8, gram: 2, least: 9, count: 5, value: 20, mass: 5},
		{forms: 60, lines: 5, den: 3, gram: 0, least: 0, count: 5, value: 3, mass: 5},
		{forms: 60, lines: 5, den: 1000, gram: 100, least: 1000, count: 1000, value: impl.MaxDeclared, mass: 500},
		{forms: 40, lines: 6, den: 20, gram: 1, least: 60, count: 9, value: 100, mass: 20},
	} {
		kind.each(func(list []impl.Class, form []impl.Line) {
			for range 3 {
				checkForms(t, list, form, source.Int64N(int64(kind.value)*3/2+1)%(impl.MaxDeclared+1), allWays[source.IntN(4)], codes)
			}
		})
	}
	if codes[impl.OK] < 300 || codes[impl.ErrNotFound] < 100 {
		t.Errorf("the codes of the fewest forms are %v", codes)
	}
}

// P14: also with as many lines as there may be.
func TestFormsOfSevenLines(t *testing.T) {
	list := []impl.Class{{Num: 1, Den: 3, Least: 4}, {Num: 1, Den: 1}, {Num: 0, Den: 1, Gram: 1}}
	form := readForm(t, list, "0:1x7/0\n1:1x9/0\n2:1x5/2\n0:1x3/0\n1:1x8/0\n2:1x6/30\n1:1x4/0\n")
	codes := map[int64]int{}
	for i, allowance := range []int64{9, 12, 21, 8} {
		checkForms(t, list, form, allowance, allWays[i], codes)
	}
	is(t, "codes", "map[0:3 6:1]", codes)
}

// P14: what is told agrees with itself, also for more lines than are tried.
func TestFormsThatAreToldAreRight(t *testing.T) {
	for _, kind := range []customs{
		{forms: 150, lines: 7, den: 8, gram: 2, least: 9, count: 5, value: 20, mass: 5},
		{forms: 150, lines: 7, den: 1000, gram: 100, least: impl.MaxDeclared, count: 1000, value: impl.MaxDeclared, mass: impl.MaxDeclared},
	} {
		kind.each(func(list []impl.Class, form []impl.Line) {
			for part := int64(1); part < 5; part++ {
				allowance := int64(kind.value) * part / 4
				free, count, code := impl.FewestForms(list, form, allowance)
				numbers, duty, _ := impl.LeastDuty(list, form, allowance, impl.RoNear)
				is(t, show("numbers", form), "true", len(numbers) == len(form))
				is(t, show("sum", form, numbers), show(duty), sumOfForms(t, list, form, numbers, allowance))
				if code == impl.OK {
					is(t, show("free", form, free), show(0, 0, count), sumOfForms(t, list, form, free, allowance), duty, differentOf(free))
				}
			}
		})
	}
}

// sumOfForms returns what all forms cost with an allowance, rounded near.
func sumOfForms(t *testing.T, list []impl.Class, form []impl.Line, numbers []int64, allowance int64) int64 {
	t.Helper()
	sum := int64(0)
	for number := range int64(len(form)) {
		var one []impl.Line
		for i, l := range form {
			if numbers[i] == number {
				one = append(one, l)
			}
		}
		duty, code := impl.WithAllowance(list, one, allowance, impl.RoNear)
		is(t, show("form", one), "0", code)
		sum += duty
	}
	return sum
}

// differentOf returns how many different numbers there are.
func differentOf(numbers []int64) int64 {
	return int64(len(slices.Compact(slices.Sorted(slices.Values(numbers)))))
}

func TestFewestFormsAtTheEdges(t *testing.T) {
	list := []impl.Class{plain}
	for _, c := range []struct {
		values    []int32
		allowance int64
		want      string
	}{
		{nil, 0, "[] 0 0"}, {nil, 1000000, "[] 0 0"},
		{[]int32{0}, 0, "[0] 1 0"}, {[]int32{1}, 0, "[] 0 6"}, {[]int32{1}, 1, "[0] 1 0"}, {[]int32{1000000}, 1000000, "[0] 1 0"}, {[]int32{1000000}, 999999, "[] 0 6"},
		{[]int32{0, 0, 0, 0, 0, 0, 0}, 0, "[0 0 0 0 0 0 0] 1 0"}, {[]int32{1, 1, 1, 1, 1, 1, 1}, 1, "[0 1 2 3 4 5 6] 7 0"}, {[]int32{1, 1, 1, 1, 1, 1, 1}, 7, "[0 0 0 0 0 0 0] 1 0"}, {[]int32{1, 1, 1, 1, 1, 1, 1}, 6, "[0 0 0 0 0 0 1] 2 0"},
		{[]int32{1, 1, 1, 1, 1, 1, 2}, 1, "[] 0 6"}, {[]int32{2, 1, 1, 1, 1, 1, 1}, 1, "[] 0 6"}, {[]int32{1000000, 1000000, 1000000, 1000000, 1000000, 1000000, 1000000}, 1000000, "[0 1 2 3 4 5 6] 7 0"},
		// Who puts each line into the first form with room needs more forms.
		{[]int32{4, 4, 6, 6}, 10, "[0 1 0 1] 2 0"}, {[]int32{3, 4, 5, 7, 6, 5}, 10, "[0 1 2 0 1 2] 3 0"}, {[]int32{5, 7, 5, 2, 4, 2, 5}, 10, "[0 1 0 1 2 2 3] 4 0"},
		{[]int32{6, 4, 4, 6}, 10, "[0 0 1 1] 2 0"}, {[]int32{5, 5, 5}, 10, "[0 0 1] 2 0"}, {[]int32{5, 6, 5}, 10, "[0 1 0] 2 0"}, {[]int32{0, 10, 0}, 10, "[0 0 0] 1 0"},
	} {
		form := formOf(c.values...)
		is(t, show("fewest", c.values, c.allowance), c.want, pack3(impl.FewestForms(list, form, c.allowance))...)
	}
}

func TestLeastDutyAtTheEdges(t *testing.T) {
	list := []impl.Class{{Num: 1, Den: 2}, {Num: 0, Den: 1, Gram: 1}, {Num: 0, Den: 1}, {Num: 1, Den: 10, Least: 9}}
	for _, c := range []struct {
		text           string
		allowance, how int64
		want           string
	}{
		{"", 0, impl.RoUp, "[] 0 0"}, {"0:1x1/0\n", 0, impl.RoUp, "[0] 1 0"}, {"0:1x1/0\n", 0, impl.RoDown, "[0] 0 0"}, {"0:1x1/0\n", 1, impl.RoUp, "[0] 0 0"},
		// Lines together in one form are rounded by themselves.
		{"0:1x1/0\n0:1x1/0\n", 0, impl.RoUp, "[0 0] 2 0"}, {"0:1x1/0\n0:1x1/0\n", 0, impl.RoDown, "[0 0] 0 0"}, {"0:1x1/0\n0:1x1/0\n", 1, impl.RoUp, "[0 1] 0 0"},
		// What has no duty goes to the first form, also if this is worth more than the allowance.
		{"0:1x9/0\n2:1x9/0\n2:1x9/0\n", 0, impl.RoUp, "[0 0 0] 5 0"}, {"2:1x9/0\n0:1x9/0\n", 9, impl.RoUp, "[0 1] 0 0"}, {"2:1x9/0\n0:1x10/0\n", 9, impl.RoUp, "[0 0] 5 0"},
		// A line that is worth nothing can have a duty, from which any form without one frees it.
		{"0:1x9/0\n1:1x0/7\n", 8, impl.RoUp, "[0 1] 5 0"}, {"0:1x9/0\n1:1x0/7\n", 9, impl.RoUp, "[0 0] 0 0"}, {"1:1x0/7\n1:1x0/8\n", 0, impl.RoUp, "[0 0] 0 0"},
		// The dearest lines are freed first, and not the most.
		{"1:1x5/9\n1:1x5/4\n1:1x6/9\n1:1x6/8\n", 5, impl.RoUp, "[0 1 2 2] 17 0"}, {"3:1x8/0\n3:1x8/0\n0:1x8/0\n", 8, impl.RoUp, "[0 1 2] 0 0"},
		{"1:1x1/1\n1:1x1/1\n1:1x1/1\n1:1x1/1\n1:1x1/1\n1:1x1/1\n1:1x1/1\n", 1, impl.RoUp, "[0 1 2 3 4 5 6] 0 0"}, {"1:1x1/1\n1:1x1/1\n1:1x1/1\n1:1x1/1\n1:1x1/1\n1:1x1/1\n1:1x1/1\n", 0, impl.RoUp, "[0 0 0 0 0 0 0] 7 0"},
		{strings.Repeat("1:1x1/1000000\n", 7), 0, impl.RoUp, "[0 0 0 0 0 0 0] 7000000 0"},
	} {
		is(t, show("least", c.text, c.allowance, c.how), c.want, pack3(impl.LeastDuty(list, readForm(t, list, c.text), c.allowance, c.how))...)
	}
	most := slices.Repeat([]impl.Line{{Count: 1000, Value: 1000000, Grams: 1000000}}, 7)
	is(t, "most", "[0 0 0 0 0 0 0] 707000000 0", pack3(impl.LeastDuty([]impl.Class{full}, most, 999999, impl.RoUp))...)
	is(t, "most, and free", "[0 1 2 3 4 5 6] 0 0", pack3(impl.LeastDuty([]impl.Class{full}, most, 1000000, impl.RoUp))...)
}

// Numbers are checked before too many lines, and these before lines that are worth too much; all other results are then zero.
func TestErrorsOfAllowances(t *testing.T) {
	list := exampleClasses()
	for _, form := range [][]impl.Line{nil, formOf(7), formOf(1000000), slices.Repeat(formOf(1000000), 8), slices.Repeat(formOf(0), 10)} {
		for _, allowance := range []int64{leastInt, -1, 1000001, 1 << 32, mostInt} {
			is(t, show("allowance", form, allowance), "0 2", pack2(impl.WithAllowance(list, form, allowance, impl.RoUp))...)
			is(t, show("fewest", form, allowance), "[] 0 2", pack3(impl.FewestForms(list, form, allowance))...)
			is(t, show("least", form, allowance), "[] 0 2", pack3(impl.LeastDuty(list, form, allowance, impl.RoUp))...)
		}
		for _, how := range noWays {
			for _, allowance := range []int64{0, 1000000} {
				is(t, show("allowance", form, how), "0 2", pack2(impl.WithAllowance(list, form, allowance, how))...)
				is(t, show("least", form, how), "[] 0 2", pack3(impl.LeastDuty(list, form, allowance, how))...)
			}
		}
	}
	for _, form := range [][]impl.Line{slices.Repeat(formOf(1000000), 8), slices.Repeat(formOf(0), 8), slices.Repeat(formOf(5), 10)} {
		for _, allowance := range []int64{0, 5, 1000000} {
			is(t, show("fewest", form, allowance), "[] 0 3", pack3(impl.FewestForms(list, form, allowance))...)
			is(t, show("least", form, allowance), "[] 0 3", pack3(impl.LeastDuty(list, form, allowance, impl.RoUp))...)
		}
	}
}

func TestDearestClass(t *testing.T) {
	list := []impl.Class{{Num: 1, Den: 2}, {Num: 0, Den: 1, Gram: 1}, {Num: 1, Den: 3, Least: 7}, {Num: 1, Den: 2}}
	for _, c := range []struct {
		value, grams, how int64
		want              string
	}{
		{0, 0, impl.RoUp, "2 7 0"}, {14, 0, impl.RoUp, "0 7 0"}, {13, 0, impl.RoUp, "0 7 0"}, {13, 0, impl.RoDown, "2 7 0"}, {13, 0, impl.RoEven, "2 7 0"}, {15, 0, impl.RoNear, "0 8 0"}, {15, 0, impl.RoDown, "0 7 0"},
		{0, 7, impl.RoUp, "1 7 0"}, {0, 8, impl.RoUp, "1 8 0"}, {16, 8, impl.RoUp, "0 8 0"}, {1000000, 1000000, impl.RoUp, "1 1000000 0"}, {1000000, 0, impl.RoUp, "0 500000 0"},
	} {
		is(t, show("dearest", c.value, c.grams, c.how), c.want, pack3(impl.DearestClass(list, c.value, c.grams, c.how))...)
	}
	is(t, "nothing", "0 0 0", pack3(impl.DearestClass([]impl.Class{plain, plain}, 1000000, 1000000, impl.RoUp))...)
	is(t, "most", "1 101000000 0", pack3(impl.DearestClass([]impl.Class{plain, full, full}, 1000000, 1000000, impl.RoUp))...)
	for _, kind := range []customs{small, mixed} {
		kind.each(func(list []impl.Class, form []impl.Line) {
			for _, l := range form {
				for _, how := range allWays {
					var duties []int64
					for _, c := range list {
						duties = append(duties, dutyByTrying(c, int64(l.Value), int64(l.Grams), how))
					}
					most := slices.Max(duties)
					is(t, show("dearest", list, l, how), show(slices.Index(duties, most), most, impl.OK), pack3(impl.DearestClass(list, int64(l.Value), int64(l.Grams), how))...)
				}
			}
		})
	}
}
