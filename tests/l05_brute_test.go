package tests

import (
	"math/rand/v2"
	"slices"
	"testing"

	"loop.example/g01366/impl"
)

// allWays are all ways of rounding.
var allWays = []int64{impl.RoDown, impl.RoUp, impl.RoNear, impl.RoEven}

// noWays are numbers that are no way of rounding.
var noWays = []int64{leastInt, -1, 4, 1 << 8, 1 << 32, 1<<32 + 1, mostInt}

// readForm returns the form of a text that has one.
func readForm(t *testing.T, list []impl.Class, text string) []impl.Line {
	t.Helper()
	form, code := impl.ReadForm(list, text)
	if code != impl.OK {
		t.Fatalf("no form is read from %q", text)
	}
	return form
}

// isShare reports whether a whole number is amount * num / den, rounded.
func isShare(whole, amount, num, den, how int64) bool {
	over := whole*den - amount*num
	switch how {
	case impl.RoDown:
		return -den < over && over <= 0
	case impl.RoUp:
		return 0 <= over && over < den
	case impl.RoNear:
		return -den < 2*over && 2*over <= den
	default:
		return -den < 2*over && 2*over < den || (2*over == den || 2*over == -den) && whole%2 == 0
	}
}

// shareByTrying tries all whole numbers near amount * num / den.
func shareByTrying(amount, num, den, how int64) int64 {
	for whole := max(amount*num/den-2, 0); ; whole++ {
		if isShare(whole, amount, num, den, how) {
			return whole
		}
	}
}

// dutyByTrying returns the duty of a line of a class with such sums.
func dutyByTrying(c impl.Class, value, grams, how int64) int64 {
	duty := shareByTrying(value, int64(c.Num), int64(c.Den), how)
	for range c.Gram {
		duty += grams
	}
	if duty < int64(c.Least) {
		return int64(c.Least)
	}
	return duty
}

// dutiesByTrying returns the duty of each line.
func dutiesByTrying(list []impl.Class, form []impl.Line, how int64) []int64 {
	duties := []int64{}
	for _, l := range form {
		duties = append(duties, dutyByTrying(list[l.Class], int64(l.Value), int64(l.Grams), how))
	}
	return duties
}

// totalOf returns the sum of all numbers.
func totalOf(numbers []int64) int64 {
	sum := int64(0)
	for _, number := range numbers {
		sum += number
	}
	return sum
}

// worthByTrying returns the sum of all values.
func worthByTrying(form []impl.Line) int64 {
	worth := int64(0)
	for _, l := range form {
		worth += int64(l.Value)
	}
	return worth
}

// linesIn returns all lines of a class.
func linesIn(form []impl.Line, class int) []impl.Line {
	return slices.DeleteFunc(slices.Clone(form), func(l impl.Line) bool { return int(l.Class) != class })
}

// inAllByTrying returns the sum of the duties of all classes that have lines.
func inAllByTrying(list []impl.Class, form []impl.Line, how int64) int64 {
	duty := int64(0)
	for class, c := range list {
		lines := linesIn(form, class)
		grams := int64(0)
		for _, l := range lines {
			grams += int64(l.Grams)
		}
		if len(lines) > 0 {
			duty += dutyByTrying(c, worthByTrying(lines), grams, how)
		}
	}
	return duty
}

// mergedByTrying returns a line for each class that has some, and whether all of them are in the bounds of lines.
func mergedByTrying(list []impl.Class, form []impl.Line) ([]impl.Line, bool) {
	merged := []impl.Line{}
	within := true
	for class := range list {
		count, value, grams := 0, 0, 0
		for _, l := range linesIn(form, class) {
			count, value, grams = count+int(l.Count), value+int(l.Value), grams+int(l.Grams)
		}
		if count > 0 {
			merged = append(merged, impl.Line{Class: int8(class), Count: int16(count), Value: int32(value), Grams: int32(grams)})
			within = within && count <= 1000 && value <= 1000000 && grams <= 1000000
		}
	}
	return merged, within
}

// allNumberings calls visit with each list of so many numbers, all less than their number, the lists in their order.
func allNumberings(lines int, visit func(numbers []int64)) {
	numbers := make([]int64, lines)
	for {
		visit(numbers)
		i := lines - 1
		for i >= 0 && numbers[i] == int64(lines)-1 {
			numbers[i] = 0
			i--
		}
		if i < 0 {
			return
		}
		numbers[i]++
	}
}

// fewestFormsByTrying returns the first one of all lists with the fewest different numbers, and how many they are; -1 if no list is right.
func fewestFormsByTrying(form []impl.Line, allowance int64) ([]int64, int64) {
	var best []int64
	fewest := int64(-1)
	allNumberings(len(form), func(numbers []int64) {
		worth, used := [7]int64{}, [7]int64{}
		for i, number := range numbers {
			worth[number] += int64(form[i].Value)
			used[number] = 1
		}
		count := totalOf(used[:])
		if slices.Max(worth[:]) <= allowance && (fewest < 0 || count < fewest) {
			best, fewest = slices.Clone(numbers), count
		}
	})
	return best, fewest
}

// leastDutyByTrying returns the first one of all lists for which the duty of all forms is least, and this duty.
func leastDutyByTrying(list []impl.Class, form []impl.Line, allowance, how int64) ([]int64, int64) {
	var best []int64
	least := int64(-1)
	duties := dutiesByTrying(list, form, how)
	allNumberings(len(form), func(numbers []int64) {
		worth, duty := [7]int64{}, [7]int64{}
		for i, number := range numbers {
			worth[number] += int64(form[i].Value)
			duty[number] += duties[i]
		}
		sum := int64(0)
		for number := range worth {
			if worth[number] > allowance {
				sum += duty[number]
			}
		}
		if least < 0 || sum < least {
			best, least = slices.Clone(numbers), sum
		}
	})
	return best, least
}

// customs tells how random classes and forms are made: with up to so many lines, and numbers up to these.
type customs struct {
	forms, lines       int
	den, gram, least   int
	count, value, mass int
}

// randomClass returns a class; the first ones of a source are always the same.
func (k customs) randomClass(source *rand.Rand) impl.Class {
	den := 1 + source.IntN(k.den)
	return impl.Class{Num: int16(source.IntN(den + 1)), Den: int16(den), Gram: int16(source.IntN(k.gram + 1)), Least: int32(source.IntN(k.least + 1))}
}

// each calls visit with classes, some of them twice, and a form for them, always the same ones.
func (k customs) each(visit func(list []impl.Class, form []impl.Line)) {
	source := rand.New(rand.NewPCG(9, uint64(k.lines*1000+k.value)))
	for range k.forms {
		list := make([]impl.Class, 1+source.IntN(impl.MaxClasses))
		for i := range list {
			list[i] = k.randomClass(source)
			if i > 0 && source.IntN(3) == 0 {
				list[i] = list[i-1]
			}
		}
		form := make([]impl.Line, source.IntN(k.lines+1))
		for i := range form {
			form[i] = impl.Line{Class: int8(source.IntN(len(list))), Count: int16(1 + source.IntN(k.count)), Value: int32(source.IntN(k.value + 1)), Grams: int32(source.IntN(k.mass + 1))}
		}
		visit(list, form)
	}
}

// small and large are customs with little and with all that is valid.
var (
	small = customs{forms: 300, lines: impl.MaxLines, den: 8, gram: 2, least: 9, count: 5, value: 20, mass: 5}
	large = customs{forms: 300, lines: impl.MaxLines, den: 1000, gram: 100, least: impl.MaxDeclared, count: 1000, value: impl.MaxDeclared, mass: impl.MaxDeclared}
	mixed = customs{forms: 300, lines: impl.MaxLines, den: 100, gram: 3, least: 2000, count: 250, value: 250000, mass: 250000}
)
