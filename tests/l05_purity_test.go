package tests

import (
	"runtime"
	"slices"
	"testing"

	"loop.example/g01366/impl"
)

// customsArgs are arguments of the functions of the chapter.
type customsArgs struct {
	list []impl.Class
	form []impl.Line
	m, n int64
}

// line returns the first line, or one that is none.
func (a customsArgs) line() impl.Line {
	if len(a.form) == 0 {
		return impl.Line{}
	}
	return a.form[0]
}

// customsCalls has each function of the chapter.
var customsCalls = map[string]func(a customsArgs) []any{
	"ValidClasses":  func(a customsArgs) []any { return []any{impl.ValidClasses(a.list)} },
	"ValidForm":     func(a customsArgs) []any { return []any{impl.ValidForm(a.list, a.form)} },
	"SameForm":      func(a customsArgs) []any { return []any{impl.SameForm(a.form, a.form)} },
	"RoundShare":    func(a customsArgs) []any { return pack2(impl.RoundShare(a.m, a.n, a.n, a.n)) },
	"WorthOf":       func(a customsArgs) []any { return pack2(impl.WorthOf(a.list, a.form)) },
	"GramsOf":       func(a customsArgs) []any { return pack2(impl.GramsOf(a.list, a.form)) },
	"DutyOfLine":    func(a customsArgs) []any { return pack2(impl.DutyOfLine(a.list, a.line(), a.n)) },
	"DutyOf":        func(a customsArgs) []any { return pack2(impl.DutyOf(a.list, a.form, a.n)) },
	"DutyInAll":     func(a customsArgs) []any { return pack2(impl.DutyInAll(a.list, a.form, a.n)) },
	"MergeLines":    func(a customsArgs) []any { return pack2(impl.MergeLines(a.list, a.form)) },
	"RoundingGap":   func(a customsArgs) []any { return pack2(impl.RoundingGap(a.list, a.form, a.n)) },
	"WithAllowance": func(a customsArgs) []any { return pack2(impl.WithAllowance(a.list, a.form, a.m, a.n)) },
	"FewestForms":   func(a customsArgs) []any { return pack3(impl.FewestForms(a.list, a.form, a.m)) },
	"LeastDuty":     func(a customsArgs) []any { return pack3(impl.LeastDuty(a.list, a.form, a.m, a.n)) },
	"DearestClass":  func(a customsArgs) []any { return pack3(impl.DearestClass(a.list, a.m, a.m, a.n)) },
	"UnitValue":     func(a customsArgs) []any { return pack2(impl.UnitValue(a.list, a.line())) },
	"FirstOdd":      func(a customsArgs) []any { return pack2(impl.FirstOdd(a.list, a.form, a.n, a.m)) },
	"FormText":      func(a customsArgs) []any { return []any{impl.FormText(a.list, a.form)} },
	"ReadForm":      func(a customsArgs) []any { return pack2(impl.ReadForm(a.list, impl.FormText(a.list, a.form))) },
}

// wholeCustoms tells arguments with all their room.
func wholeCustoms(a customsArgs) string {
	return show(whole(a.list), whole(a.form))
}

// someCustoms returns classes and forms, some of them valid and some not.
func someCustoms() []customsArgs {
	line := impl.Line{Class: 1, Count: 2, Value: 10, Grams: 5}
	all := []customsArgs{
		{}, {list: exampleClasses()}, {list: []impl.Class{full}, form: []impl.Line{line}}, {list: []impl.Class{{Num: 1, Den: 0}}, form: []impl.Line{line}},
		{list: exampleClasses(), form: []impl.Line{line, {Count: 1, Value: 250}, line, {Count: 1, Value: 250}}}, {list: exampleClasses(), form: slices.Repeat([]impl.Line{line}, 7)},
		{list: exampleClasses(), form: slices.Repeat([]impl.Line{line}, 10)}, {list: exampleClasses(), form: slices.Repeat([]impl.Line{line}, 11)},
		{list: slices.Repeat([]impl.Class{full}, 8), form: []impl.Line{{Class: 7, Count: 1000, Value: 1000000, Grams: 1000000}, {Class: 0, Count: 1000, Value: 1000000, Grams: 1000000}}},
		{list: slices.Repeat([]impl.Class{full}, 9), form: []impl.Line{line}}, {list: []impl.Class{{Num: -32768, Den: -32768, Gram: -32768, Least: -2147483648}}, form: []impl.Line{{Class: -128, Count: -32768, Value: -2147483648, Grams: -2147483648}}},
	}
	for _, form := range invalidForms[:16] {
		all = append(all, customsArgs{list: exampleClasses(), form: form})
	}
	return all
}

// P1: every function returns for all arguments, modifies none, not even the room behind it, and returns the same again.
func TestCustomsArePure(t *testing.T) {
	for name, call := range customsCalls {
		for _, a := range someCustoms() {
			for _, m := range []int64{leastInt, -1, 0, 10, 300, 1000000, 1000001, mostInt} {
				for _, n := range []int64{leastInt, -1, 0, 1, 2, 3, 4, 1000, mostInt} {
					checkPureCall(t, name, call, customsArgs{roomy(a.list, impl.Class{Num: 7, Den: 7}), roomy(a.form, impl.Line{Count: 7}), m, n}, wholeCustoms)
				}
			}
		}
	}
}

// P1: calls at the same time do not disturb each other.
func TestCustomsAtTheSameTime(t *testing.T) {
	a := customsArgs{list: exampleClasses(), form: slices.Repeat([]impl.Line{{Class: 1, Count: 2, Value: 10, Grams: 5}, {Count: 1, Value: 250}}, 3), m: 300, n: impl.RoNear}
	for name, call := range customsCalls {
		checkAtTheSameTime(t, name, call, a)
	}
}

// P1: what a call starts does not go on behind it.
func TestCustomsLeaveNothingRunning(t *testing.T) {
	before := runtime.NumGoroutine()
	for range 50 {
		for _, lines := range []int{0, 1, 6, 7, 8} {
			form := slices.Repeat([]impl.Line{{Count: 1, Value: 250}}, lines)
			for _, allowance := range []int64{-1, 0, 249, 250, 500} {
				impl.FewestForms(exampleClasses(), form, allowance)
				impl.LeastDuty(exampleClasses(), form, allowance, impl.RoUp)
			}
		}
	}
	checkNothingRuns(t, before)
}

// A nil slice and an empty one are equivalent.
func TestNoCustomsAndNilAreTheSame(t *testing.T) {
	for name, call := range customsCalls {
		for _, n := range []int64{-1, 0, 3, 4, mostInt} {
			is(t, name, show(call(customsArgs{m: n, n: n})...), call(customsArgs{[]impl.Class{}, []impl.Line{}, n, n})...)
			is(t, name, show(call(customsArgs{list: exampleClasses(), m: n, n: n})...), call(customsArgs{exampleClasses(), []impl.Line{}, n, n})...)
		}
	}
}
