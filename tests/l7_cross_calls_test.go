package tests

import (
	"slices"
	"testing"

	"loop.example/g01239/impl"
)

var crossCalls = []call{
	{"DoLeapsCross", "blL", func(in input) []any { return results(impl.DoLeapsCross(in.board, in.leaper, in.leap, in.other)) }},
	{"CountCrossings", "blpP", func(in input) []any { return results(impl.CountCrossings(in.board, in.leaper, in.path)) }},
	{"IsUncrossed", "blpa", func(in input) []any { return results(impl.IsUncrossed(in.board, in.leaper, in.path)) }},
	{"LongestUncrossed", "blg", func(in input) []any { return results(impl.LongestUncrossed(in.board, in.leaper)) }},
	{"IsRing", "Bl", func(in input) []any { return results(impl.IsRing(in.field, in.leaper, in.round)) }},
	{"TwiceArea", "BlR", func(in input) []any { return results(impl.TwiceArea(in.field, in.leaper, in.round)) }},
	{"InsideRing", "BlR", func(in input) []any { return results(impl.InsideRing(in.field, in.leaper, in.round)) }},
	{"PointsInside", "BlR", func(in input) []any { return results(impl.PointsInside(in.field, in.leaper, in.round)) }},
	{"PointsOnRing", "BlR", func(in input) []any { return results(impl.PointsOnRing(in.field, in.leaper, in.round)) }},
	{"TurnsOfPath", "blpP", func(in input) []any { return results(impl.TurnsOfPath(in.board, in.leaper, in.path)) }},
	{"BackPath", "blpP", func(in input) []any { return results(impl.BackPath(in.board, in.leaper, in.path)) }},
	{"CrossedLeaps", "blftT", func(in input) []any { return results(impl.CrossedLeaps(in.board, in.leaper, in.from, in.to)) }},
	{"MostApart", "blgA", func(in input) []any { return results(impl.MostApart(in.board, in.leaper)) }},
	{"LargestRing", "BlGH", func(in input) []any { return results(impl.LargestRing(in.field, in.leaper, in.around)) }},
}

// noRings are lists that are no rings of six knight's leaps on the field of goodInput, with the holes 4, 14, 15 and 19.
func noRings() [][]int {
	good := goodInput().round
	lists := [][]int{nil, {}, {0, 7, 18}, {0, 7, 0}, {0, 0, 0}, {1, 8, 19, 12}, append(slices.Clone(good), 9), slices.Repeat(good, 2), slices.Repeat(good, 11), make([]int, 16), make([]int, 17), make([]int, 1000)}
	lists = append(lists, []int{0, 7, 10, 1, 12, 5, 2, 11}, []int{10, 1, 12, 5, 2, 11, 0, 7}) // a closed walk that crosses itself
	for n := range good {
		lists = append(lists, good[:n], good[n+1:], slices.Concat(good[:n], good[n+1:]))
		for _, other := range append([]int{4, 20, 14, 15, 19, good[(n+2)%6]}, extremes...) {
			list := slices.Clone(good)
			list[n] = other
			lists = append(lists, list)
		}
	}
	return lists
}

// noLeaps are lists that are no leaps of the knight on the board of goodInput, with the holes 3, 5, 7 and 11.
func noLeaps() [][]int {
	lists := [][]int{nil, {}, {0}, {0, 0}, {0, 1}, {0, 8}, {0, 2}, {0, 6, 8}, {0, 6, 0}, {6, 0, 9}, {1, 7}, {7, 1}, {2, 11}, {11, 5}, {3, 10}, make([]int, 64), make([]int, 1000)}
	for _, n := range append([]int{3, 5, 7, 11, 12, 13, 15}, extremes...) {
		lists = append(lists, []int{n}, []int{0, n}, []int{n, 0}, []int{n, n}, []int{0, 6, n})
	}
	return lists
}

// addBadCrossings adds what chapter 7 forbids: lists that are no leaps (L), no paths (P) and no rings (R), two cells without a leap (T), boards with more than 24 leaps (A), and for rings with too many cells (G), and numbers of cells of no ring (H).
func addBadCrossings(add func(letter string, change func(in *input))) {
	round := goodInput().path
	for _, list := range noLeaps() {
		add("L", func(in *input) { in.leap = list })
		add("L", func(in *input) { in.other = list })
		add("L", func(in *input) { in.leap, in.other = list, list })
	}
	noPaths := [][]int{nil, {}, {0, 0}, {0, 1}, {0, 6, 1}, {0, 9, 0, 0}, {0, 6, 8, 10}, {6, 0, 2}, slices.Repeat(round, 9), append(slices.Repeat(round, 8), 0)}
	for _, list := range noPaths {
		add("P", func(in *input) { in.path = list })
	}
	for _, list := range noRings() {
		add("R", func(in *input) { in.round = list })
	}
	for _, to := range []int{0, 1, 2, 4, 8, 10} {
		add("T", func(in *input) { in.to = to })
	}
	for _, b := range crowded() {
		add("A", func(in *input) { in.board = b })
	}
	for _, b := range []impl.Board{plain(5, 4), plain(4, 5), keeping(5, 4, 17), keeping(8, 8, 17), plain(8, 8)} {
		add("G", func(in *input) { in.field = b })
	}
	for _, n := range append([]int{0, 1, 2, 3, 5, 7, 8, 9, 10, 12, 16}, extremes...) {
		add("H", func(in *input) { in.around = n })
	}
}

// having is the board of 8 by 8 cells with just these.
func having(cells ...int) impl.Board {
	b := plain(8, 8)
	b.Holes = slices.DeleteFunc(up(0, 64), func(cell int) bool { return slices.Contains(cells, cell) })
	return b
}

// crowded are boards of 16 cells with 25, 26, 28 and 32 knight's leaps.
func crowded() []impl.Board {
	return []impl.Board{
		having(3, 9, 10, 12, 13, 19, 20, 22, 25, 26, 27, 28, 36, 37, 43, 53),
		having(3, 9, 12, 13, 18, 19, 20, 24, 26, 27, 28, 34, 36, 37, 43, 53),
		having(3, 5, 11, 12, 18, 20, 22, 26, 27, 28, 33, 35, 37, 41, 43, 52),
		having(12, 18, 22, 27, 28, 29, 33, 35, 37, 39, 43, 44, 45, 50, 54, 60),
	}
}

// IsRing takes any list, but what is told of rings does not.
func TestNumbersOfAnySizeAreInNoRing(t *testing.T) {
	b := goodInput().field
	for _, list := range noRings() {
		isNoRing(t, b, knight, list)
		for _, l := range []impl.Leaper{{A: 0, B: 5}, {A: 4, B: 5}, {A: 5, B: 5}} {
			isNoRing(t, b, l, list)
		}
	}
}

// What has to be a walk may not have a cell twice; what has to be a path may.
func TestPathsThatAreNoWalks(t *testing.T) {
	b, path := plain(3, 3), []int{0, 5, 6, 5}
	wants(t, "CountCrossings", results(impl.CountCrossings(b, knight, path)), 1, true)
	wants(t, "TurnsOfPath", results(impl.TurnsOfPath(b, knight, path)), 1, 1, 0, true)
	wants(t, "BackPath", results(impl.BackPath(b, knight, path)), []int{5, 6, 5, 0}, true)
	wants(t, "IsUncrossed", results(impl.IsUncrossed(b, knight, path)), false, false)
	wants(t, "IsUncrossed", results(impl.IsUncrossed(plain(4, 4), knight, []int{1, 7, 14, 8, 1})), false, false)
}

// On a board of 16 cells something is looked for, on one of 17 nothing is; what looks for nothing has no such limit.
func TestMostCellsForCrossings(t *testing.T) {
	square := []int{0, 1, 9, 8}
	for _, b := range []impl.Board{plain(8, 2), keeping(8, 3, 16), keeping(8, 8, 16)} {
		wants(t, "LongestUncrossed", results(impl.LongestUncrossed(b, single)), append(up(0, 8), backwards(up(8, 8))...), true)
		wants(t, "MostApart", results(impl.MostApart(b, single)), 8, true)
		wants(t, "LargestRing", results(impl.LargestRing(b, single, 4)), square, true)
	}
	for _, b := range []impl.Board{keeping(8, 3, 17), keeping(8, 8, 17), plain(8, 3), plain(8, 8)} {
		for _, l := range []impl.Leaper{single, knight, {A: 5, B: 5}} {
			wants(t, "LongestUncrossed", results(impl.LongestUncrossed(b, l)), []int(nil), false)
			wants(t, "MostApart", results(impl.MostApart(b, l)), 0, false)
			wants(t, "LargestRing", results(impl.LargestRing(b, l, 4)), []int(nil), false)
		}
		wants(t, "DoLeapsCross", results(impl.DoLeapsCross(b, single, []int{0, 1}, []int{9, 8})), false, true)
		wants(t, "CountCrossings", results(impl.CountCrossings(b, single, up(0, 8))), 0, true)
		wants(t, "IsUncrossed", results(impl.IsUncrossed(b, single, up(0, 8))), true, true)
		wants(t, "IsRing", results(impl.IsRing(b, single, square)), true, true)
		wants(t, "TwiceArea", results(impl.TwiceArea(b, single, square)), 2, true)
		wants(t, "CrossedLeaps", results(impl.CrossedLeaps(b, single, 0, 8)), [][]int{{0, 8}}, true)
	}
}

// MostApart answers for 24 leaps and fails for 25.
func TestMostLeapsApart(t *testing.T) {
	full := having(3, 7, 9, 13, 18, 19, 20, 26, 27, 30, 35, 36, 37, 41, 43, 53)
	for _, b := range []impl.Board{full, plain(4, 4)} {
		n, ok := impl.CountLeaps(b, knight)
		wants(t, "CountLeaps", results(n, ok), 24, true)
	}
	wants(t, "MostApart of 24 leaps", results(impl.MostApart(full, knight)), 7, true)
	wants(t, "MostApart of 24 leaps", results(impl.MostApart(plain(4, 4), knight)), 6, true)
	wants(t, "CountLeaps", results(impl.CountLeaps(crowded()[0], knight)), 25, true)
	for _, b := range crowded() {
		wants(t, "MostApart", results(impl.MostApart(b, knight)), 0, false)
	}
}

func TestHowManyCellsOfRings(t *testing.T) {
	rings := map[int][]int{4: {0, 1, 5, 4}, 6: {0, 1, 2, 6, 5, 4}, 8: {0, 1, 2, 6, 10, 9, 8, 4}}
	for n := -2; n <= 16; n++ { // there are rings of 10 and 12 cells, too
		wants(t, named("LargestRing", n), results(impl.LargestRing(plain(4, 4), single, n)), rings[n], rings[n] != nil)
	}
	outline := []int{0, 1, 2, 3, 4, 12, 20, 28, 36, 35, 34, 33, 32, 24, 16, 8}
	wants(t, "IsRing of 16 cells", results(impl.IsRing(plain(8, 8), single, outline)), true, true)
	longer := []int{0, 1, 2, 3, 4, 5, 13, 21, 29, 37, 36, 35, 34, 33, 32, 24, 16, 8}
	isNoRing(t, plain(8, 8), single, longer)
}

// Walks that are looked for have memory of their own also where others go on from them.
func TestFoundWalksAreKept(t *testing.T) {
	for _, b := range []impl.Board{plain(4, 4), plain(5, 3), holed(5, 4, 4, 14, 15, 19)} {
		for _, l := range allLeapers() {
			walk, _ := impl.LongestUncrossed(b, l)
			wants(t, "IsUncrossed", results(impl.IsUncrossed(b, l, walk)), true, true)
			for n := 3; n <= 8; n++ {
				if ring, ok := impl.LargestRing(b, l, n); ok {
					wants(t, "IsRing", results(impl.IsRing(b, l, ring)), true, true)
					wants(t, "its cells", results(len(ring)), n)
				}
			}
		}
	}
}
