package tests

import (
	"slices"
	"testing"

	"loop.example/g01239/impl"
)

var paintCalls = []call{
	{"IsPainting", "bl", func(in input) []any { return results(impl.IsPainting(in.board, in.leaper, in.colours)) }},
	{"TwoColours", "bl", func(in input) []any { return results(impl.TwoColours(in.board, in.leaper)) }},
	{"SidesOfParts", "bl", func(in input) []any { return results(impl.SidesOfParts(in.board, in.leaper)) }},
	{"IsFarPainting", "bl", func(in input) []any { return results(impl.IsFarPainting(in.board, in.leaper, in.colours)) }},
	{"FewestFar", "blg", func(in input) []any { return results(impl.FewestFar(in.board, in.leaper)) }},
	{"FirstFar", "blg", func(in input) []any { return results(impl.FirstFar(in.board, in.leaper)) }},
	{"CountPaintings", "blgj", func(in input) []any { return results(impl.CountPaintings(in.board, in.leaper, in.few)) }},
	{"PaintBySteps", "bd", func(in input) []any { return results(impl.PaintBySteps(in.board, in.p, in.q, in.m)) }},
	{"DoesPaint", "ld", func(in input) []any { return results(impl.DoesPaint(in.leaper, in.p, in.q, in.m)) }},
	{"CellsOfColours", "bo", func(in input) []any { return results(impl.CellsOfColours(in.board, in.colours)) }},
	{"ChangesColour", "l", func(in input) []any { return results(impl.ChangesColour(in.leaper)) }},
	{"CommonStep", "l", func(in input) []any { return results(impl.CommonStep(in.leaper)) }},
	{"ReachesAll", "l", func(in input) []any { return results(impl.ReachesAll(in.leaper)) }},
	{"CanReachFar", "ly", func(in input) []any { return results(impl.CanReachFar(in.leaper, in.x, in.y)) }},
	{"LeapsFar", "lyz", func(in input) []any { return results(impl.LeapsFar(in.leaper, in.x, in.y)) }},
	{"BalanceOf", "b", func(in input) []any { return results(impl.BalanceOf(in.board)) }},
}

// painted has the colours of a board of which colourOf tells that of each cell that is there.
func painted(b impl.Board, colourOf func(x int, y int) int) []int {
	colours := slices.Repeat([]int{-1}, b.Wide*b.High)
	for _, cell := range there(b) {
		colours[cell] = colourOf(cell%b.Wide, cell/b.Wide)
	}
	return colours
}

// bySums paints with two colours, as the column and the row together are even or odd.
func bySums(b impl.Board) []int {
	return painted(b, func(x int, y int) int { return (x + y) % 2 })
}

// noColours are lists that are no colours of the board of goodInput.
func noColours() [][]int {
	good := goodInput().colours
	lists := [][]int{nil, {}, {0}, good[:11], append(slices.Clone(good), 0), append(slices.Clone(good), -1), make([]int, 12), make([]int, 1000), slices.Repeat([]int{-1}, 12)}
	for cell, colour := range good {
		for _, n := range append([]int{-2, 9, 10}, extremes...) {
			lists = append(lists, slices.Concat(good[:cell], []int{n}, good[cell+1:]))
		}
		if colour == -1 { // a hole has no other colour, and a cell that is there has one
			lists = append(lists, slices.Concat(good[:cell], []int{0}, good[cell+1:]), slices.Concat(good[:cell], []int{8}, good[cell+1:]))
		} else {
			lists = append(lists, slices.Concat(good[:cell], []int{-1}, good[cell+1:]))
		}
	}
	return slices.DeleteFunc(lists, func(list []int) bool { return slices.Equal(list, good) }) // -1 is an extreme, and right for holes
}

// addBadPaintings adds what chapter 4 forbids: boards with too many cells for paintings, and for sets in chapter 5 (g), numbers of colours (j), numbers of steps (d), lists that are no colours (o), cells of the plane that are too far away (y), and for leaps to them too far or out of reach (z).
func addBadPaintings(add func(letter string, change func(in *input))) {
	for _, b := range []impl.Board{plain(8, 3), plain(6, 3), plain(3, 6), keeping(8, 8, 17), keeping(5, 4, 17), plain(8, 8), holed(5, 4, 0, 1, 2)} {
		for _, l := range []impl.Leaper{knight, {A: 0, B: 1}, {A: 5, B: 5}} {
			add("g", func(in *input) { in.board, in.leaper = b, l })
		}
	}
	for _, n := range append([]int{0, 5, 6, 9}, extremes...) {
		add("j", func(in *input) { in.few = n })
	}
	for _, n := range append([]int{5, 6, 9}, extremes...) {
		add("d", func(in *input) { in.p = n })
		add("d", func(in *input) { in.q = n })
	}
	for _, n := range append([]int{0, 1, 2, 10}, extremes...) {
		add("d", func(in *input) { in.m = n })
	}
	for _, n := range append([]int{0, 10, 18}, extremes...) {
		add("d", func(in *input) { in.p, in.q, in.m = 0, 0, n })
		add("d", func(in *input) { in.p, in.q, in.m = n-1, n-1, n })
	}
	for _, colours := range noColours() {
		add("o", func(in *input) { in.colours = colours })
	}
	for _, n := range append([]int{101, 102, -101, -102}, farExtremes()...) {
		add("y", func(in *input) { in.x = n })
		add("y", func(in *input) { in.y = n })
		add("y", func(in *input) { in.x, in.y = n, n })
	}
	for _, n := range []int{7, 8, -7, -8, 100, -100} {
		add("z", func(in *input) { in.x = n })
		add("z", func(in *input) { in.y = n })
		add("z", func(in *input) { in.x, in.y = n, n })
	}
	add("z", func(in *input) { in.leaper = impl.Leaper{A: 1, B: 1} })
	add("z", func(in *input) { in.leaper = impl.Leaper{A: 0, B: 2} })
	add("z", func(in *input) { in.leaper, in.x = impl.Leaper{A: 2, B: 2}, 2 })
}

// farExtremes are the extremes that are no cells of the plane within 100.
func farExtremes() []int {
	return slices.DeleteFunc(slices.Clone(extremes), func(n int) bool { return n >= -100 && n <= 100 })
}

func TestNumbersOfAnySizeAreNoColours(t *testing.T) {
	b := goodInput().board
	for _, list := range noColours() {
		for _, l := range allLeapers() {
			wants(t, "IsPainting", results(impl.IsPainting(b, l, list)), false, true)
			wants(t, "IsFarPainting", results(impl.IsFarPainting(b, l, list)), false, true)
		}
		wants(t, "CellsOfColours", results(impl.CellsOfColours(b, list)), []int(nil), false)
	}
}

// Paintings are looked for and counted on a board of 16 cells and not on one of 17; what looks for none has no such limit.
func TestMostCellsForPaintings(t *testing.T) {
	for _, b := range []impl.Board{plain(8, 2), plain(4, 4), keeping(8, 8, 16), keeping(3, 8, 16)} {
		if _, ok := impl.FewestFar(b, single); !ok {
			t.Error("FewestFar fails on 16 cells", b)
		}
		if list, ok := impl.FirstFar(b, single); !ok || len(list) != b.Wide*b.High {
			t.Error("FirstFar fails on 16 cells", b)
		}
		if n, ok := impl.CountPaintings(b, single, 2); n != 2 || !ok {
			t.Error("CountPaintings fails on 16 cells", b)
		}
	}
	for _, b := range []impl.Board{keeping(8, 3, 17), keeping(8, 8, 17), plain(6, 3), plain(8, 8)} {
		wants(t, "FewestFar", results(impl.FewestFar(b, single)), 0, false)
		wants(t, "FirstFar", results(impl.FirstFar(b, single)), []int(nil), false)
		wants(t, "TwoColours", results(impl.TwoColours(b, single)), bySums(b), true)
		wants(t, "IsPainting", results(impl.IsPainting(b, single, bySums(b))), true, true)
		wants(t, "IsFarPainting", results(impl.IsFarPainting(b, single, bySums(b))), false, true)
		for colours := 1; colours <= 4; colours++ {
			wants(t, named("CountPaintings", colours), results(impl.CountPaintings(b, single, colours)), 0, false)
		}
	}
}

func TestHowManyColoursAreCounted(t *testing.T) {
	for _, n := range append([]int{0, 5, 9}, extremes...) {
		for _, b := range []impl.Board{plain(1, 1), plain(4, 4), onlyCell(8, 8, 63)} {
			wants(t, named("CountPaintings", n), results(impl.CountPaintings(b, knight, n)), 0, false)
		}
	}
	for n := 1; n <= 4; n++ {
		wants(t, named("CountPaintings of a cell", n), results(impl.CountPaintings(onlyCell(8, 8, 63), knight, n)), n, true)
	}
}

func TestHowFarThePlaneGoes(t *testing.T) {
	for _, n := range []int{100, -100} {
		for _, m := range []int{100, -100, 0} {
			wants(t, named("CanReachFar", n, m), results(impl.CanReachFar(knight, n, m)), true, true)
			wants(t, named("CanReachFar", m, n), results(impl.CanReachFar(knight, m, n)), true, true)
		}
	}
	for _, n := range append([]int{101, -101, 200}, farExtremes()...) {
		wants(t, named("CanReachFar", n), results(impl.CanReachFar(single, n, 0)), false, false)
		wants(t, named("CanReachFar 0", n), results(impl.CanReachFar(single, 0, n)), false, false)
		wants(t, named("LeapsFar", n), results(impl.LeapsFar(single, n, 0)), 0, false)
		wants(t, named("LeapsFar 0", n), results(impl.LeapsFar(single, 0, n)), 0, false)
	}
	for _, n := range []int{6, -6} {
		wants(t, named("LeapsFar", n), results(impl.LeapsFar(single, n, n)), 12, true)
		wants(t, named("LeapsFar 0", n), results(impl.LeapsFar(single, 0, n)), 6, true)
	}
	for _, n := range []int{7, -7} {
		wants(t, named("LeapsFar", n), results(impl.LeapsFar(single, n, 0)), 0, false)
		wants(t, named("LeapsFar 0", n), results(impl.LeapsFar(single, 0, n)), 0, false)
	}
}
