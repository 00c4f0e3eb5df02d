package tests

import (
	"slices"
	"strings"
	"testing"

	"loop.example/g01366/impl"
)

// brick is the box of the document's example.
var brick = impl.Box{A: 4, B: 2, C: 1}

// invalidBoxes are no boxes.
var invalidBoxes = []impl.Box{
	{}, {A: 0, B: 1, C: 1}, {A: 1, B: 0, C: 1}, {A: 1, B: 1, C: 0}, {A: -1, B: 1, C: 1}, {A: 1, B: -1, C: 1}, {A: 1, B: 1, C: -1},
	{A: 61, B: 1, C: 1}, {A: 1, B: 61, C: 1}, {A: 1, B: 1, C: 61}, {A: 127, B: 127, C: 127}, {A: -128, B: -128, C: -128}, {A: -4, B: -2, C: 1},
}

// invalidLists are lists of boxes that are too long, or have a box that is none.
func invalidLists() [][]impl.Box {
	lists := [][]impl.Box{slices.Repeat([]impl.Box{brick}, 11), slices.Repeat([]impl.Box{brick}, 1000000), make([]impl.Box, 1000000)}
	for _, b := range invalidBoxes {
		lists = append(lists, []impl.Box{b}, []impl.Box{b, brick}, []impl.Box{brick, b}, append(slices.Repeat([]impl.Box{brick}, 9), b))
	}
	return lists
}

// readBoxes returns the boxes of a text that has some.
func readBoxes(t *testing.T, text string) []impl.Box {
	t.Helper()
	list, code := impl.ReadBoxes(text)
	if code != impl.OK {
		t.Fatalf("no boxes are read from %q", text)
	}
	return list
}

func TestLimitsOfWrapping(t *testing.T) {
	is(t, "limits", "60 10 400 2 15 20000", impl.MaxSide, impl.MaxBoxes, impl.MaxRoll, impl.Lap, impl.Knot, impl.MaxWraps)
}

func TestExampleOfBoxes(t *testing.T) {
	is(t, "turns", "[{1 2 4} {1 4 2} {2 1 4} {2 4 1} {4 1 2} {4 2 1}] 0", pack2(impl.TurnsOf(brick))...)
	is(t, "string", "118 6 0", pack3(impl.StringFor(brick, 7))...)
	is(t, "string without crossings", "6 0 0", pack3(impl.StringFor(brick, 1))...)
	is(t, "string without crossings", "10 0 0", pack3(impl.StringFor(brick, 2))...)
	is(t, "string without crossings", "12 0 0", pack3(impl.StringFor(brick, 4))...)
	is(t, "carton", "3 {4 2 1} 0", pack3(impl.HowMany(brick, impl.Box{A: 4, B: 2, C: 3}))...)
}

func TestValidBox(t *testing.T) {
	for _, b := range []impl.Box{{A: 1, B: 1, C: 1}, {A: 60, B: 60, C: 60}, {A: 1, B: 60, C: 30}, brick, {A: 5, B: 1, C: 9}} {
		if !impl.ValidBox(b) {
			t.Errorf("the box %v is not valid", b)
		}
	}
	for _, b := range invalidBoxes {
		if impl.ValidBox(b) {
			t.Errorf("the box %v is valid", b)
		}
	}
}

func TestSameBox(t *testing.T) {
	list := append([]impl.Box{{A: 4, B: 2, C: 1}, {A: 4, B: 1, C: 2}, {A: 2, B: 4, C: 1}, {A: 1, B: 2, C: 4}, {A: 4, B: 2, C: 2}}, invalidBoxes[1:]...)
	for i, a := range list {
		for k, b := range list {
			if got := impl.SameBox(a, b); got != (i == k) {
				t.Errorf("the boxes %v and %v are told to be the same: %v", a, b, got)
			}
		}
	}
}

func TestSortBoxAndTurnsOf(t *testing.T) {
	smallBoxes(5, func(b impl.Box) {
		all := turnsByTrying(b)
		is(t, show("turns", b), show(all, impl.OK), pack2(impl.TurnsOf(b))...)
		is(t, show("sorted", b), show(all[len(all)-1], impl.OK), pack2(impl.SortBox(b))...)
	})
}

// A box with equal sides has 3 turns or 1, for turns are different boxes.
func TestTurnsAtTheEdges(t *testing.T) {
	for text, want := range map[string]string{
		"60x60x60": "[{60 60 60}] 0",
		"1x1x1":    "[{1 1 1}] 0",
		"60x1x60":  "[{1 60 60} {60 1 60} {60 60 1}] 0",
		"1x60x1":   "[{1 1 60} {1 60 1} {60 1 1}] 0",
		"59x60x58": "[{58 59 60} {58 60 59} {59 58 60} {59 60 58} {60 58 59} {60 59 58}] 0",
	} {
		is(t, text, want, pack2(impl.TurnsOf(readBoxes(t, text)[0]))...)
	}
}

func TestVolumeOf(t *testing.T) {
	for text, want := range map[string]string{"1x1x1": "1 0", "4x2x1": "8 0", "60x60x60": "216000 0", "60x1x7": "420 0"} {
		is(t, text, want, pack2(impl.VolumeOf(readBoxes(t, text)[0]))...)
	}
}

func TestStringFor(t *testing.T) {
	for ways, want := range []string{"0 0 0", "6 0 0", "10 0 0", "46 2 0", "12 0 0", "48 2 0", "52 2 0", "118 6 0"} {
		is(t, show("ways", ways), want, pack3(impl.StringFor(brick, int64(ways)))...)
	}
	is(t, "turned", "48 2 0", pack3(impl.StringFor(impl.Box{A: 1, B: 2, C: 4}, 5))...)
	is(t, "greatest", "810 6 0", pack3(impl.StringFor(impl.Box{A: 60, B: 60, C: 60}, 7))...)
}

func TestHowManyAgainstAll(t *testing.T) {
	cartons := readBoxes(t, "1x1x1 4x2x3 5x5x5 7x3x9 3x9x7 60x1x2 8x8x4")
	smallBoxes(5, func(b impl.Box) {
		for _, carton := range cartons {
			n, turn := manyByTrying(b, carton)
			is(t, show("how many", b, carton), show(n, turn, impl.OK), pack3(impl.HowMany(b, carton))...)
		}
	})
}

func TestHowManyAtTheEdges(t *testing.T) {
	for _, c := range []struct{ b, carton, want string }{
		{"1x1x1", "60x60x60", "216000 {1 1 1} 0"},
		{"60x60x60", "60x60x60", "1 {60 60 60} 0"},
		{"60x60x60", "60x60x59", "0 {60 60 60} 0"},
		{"5x1x1", "4x4x4", "0 {1 1 5} 0"},
		{"1x1x5", "4x5x4", "16 {1 5 1} 0"},
		{"4x2x1", "8x8x8", "64 {1 2 4} 0"},
	} {
		is(t, c.b+" in "+c.carton, c.want, pack3(impl.HowMany(readBoxes(t, c.b)[0], readBoxes(t, c.carton)[0]))...)
	}
}

// A box is checked before all else; all other results are then zero.
func TestErrorsOfBoxes(t *testing.T) {
	for _, b := range invalidBoxes {
		is(t, "invalid: sort", "{0 0 0} 1", pack2(impl.SortBox(b))...)
		is(t, "invalid: turns", "[] 1", pack2(impl.TurnsOf(b))...)
		is(t, "invalid: volume", "0 1", pack2(impl.VolumeOf(b))...)
		is(t, "invalid: how many", "0 {0 0 0} 1", pack3(impl.HowMany(b, brick))...)
		is(t, "invalid: carton", "0 {0 0 0} 1", pack3(impl.HowMany(brick, b))...)
		for _, ways := range []int64{leastInt, -1, 0, 7, 8, mostInt} {
			is(t, "invalid: string", "0 0 1", pack3(impl.StringFor(b, ways))...)
		}
	}
	for _, ways := range []int64{leastInt, -1, 8, 15, 1 << 32, mostInt} {
		is(t, "range: string", "0 0 2", pack3(impl.StringFor(brick, ways))...)
	}
}

func TestBoxesTextIsRead(t *testing.T) {
	randomBoxes(300, impl.MaxBoxes, impl.MaxSide, func(list []impl.Box) {
		back, code := impl.ReadBoxes(impl.BoxesText(list))
		is(t, "boxes", show(list, impl.OK), back, code)
	})
	for _, text := range []string{"", "1x1x1", "60x60x60", "4x2x1", "2x2x2 4x4x4 3x3x3 5x1x9", "1x2x3" + strings.Repeat(" 10x20x30", 9)} {
		is(t, "text", text, impl.BoxesText(readBoxes(t, text)))
	}
	is(t, "boxes", "[{4 2 1} {60 1 9}] 0", pack2(impl.ReadBoxes("4x2x1 60x1x9"))...)
	for _, list := range invalidLists() {
		is(t, "invalid", "", impl.BoxesText(list))
	}
}

func TestTextsOfNoBoxes(t *testing.T) {
	texts := []string{
		" ", "x", "xx", "1", "1x1", "1x1x", "x1x1", "1xx1", "1x1x1x", "1x1x1x1", "1x1x1 ", " 1x1x1", "1x1x1  1x1x1", "1x1x1 1x1",
		"1x1x1\n", "1x1x1\t1x1x1", "1x1x1,1x1x1", "1 x1x1", "1X1X1", "1*1*1", "01x1x1", "1x1x01", "1x00x1", "+1x1x1", "1x1x+1", "-1x1x1", "1x-0x1",
		"0x1x1", "1x0x1", "1x1x0", "61x1x1", "1x61x1", "1x1x61", "127x1x1", "128x1x1", "257x1x1", "1x256x1", "99999999999999999999x1x1",
		"0x1x1x1", "1_0x1x1", "1.0x1x1", "1e1x1x1", "\x00", "\u0661x1x1", "1\u00d71\u00d71", "1x1x1\u00a01x1x1", "\xff",
		"1x1x1" + strings.Repeat(" 1x1x1", 10), strings.Repeat("1x1x1 ", 160000), strings.Repeat("9", 1000000), strings.Repeat("x", 1000000), strings.Repeat(" ", 1000000),
	}
	for _, text := range texts {
		is(t, show("text", text[:min(20, len(text))]), "[] 5", pack2(impl.ReadBoxes(text))...)
	}
}
