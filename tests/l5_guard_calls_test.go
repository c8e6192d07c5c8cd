package tests

import (
	"slices"
	"testing"

	"loop.example/g01239/impl"
)

var guardCalls = []call{
	{"IsSet", "br", func(in input) []any { return results(impl.IsSet(in.board, in.set)) }},
	{"GuardedBy", "blr", func(in input) []any { return results(impl.GuardedBy(in.board, in.leaper, in.set)) }},
	{"AreGuards", "blr", func(in input) []any { return results(impl.AreGuards(in.board, in.leaper, in.set)) }},
	{"FewestGuards", "blg", func(in input) []any { return results(impl.FewestGuards(in.board, in.leaper)) }},
	{"FirstGuards", "blg", func(in input) []any { return results(impl.FirstGuards(in.board, in.leaper)) }},
	{"CountFewest", "blg", func(in input) []any { return results(impl.CountFewest(in.board, in.leaper)) }},
	{"ArePeaceful", "blr", func(in input) []any { return results(impl.ArePeaceful(in.board, in.leaper, in.set)) }},
	{"MostPeaceful", "blg", func(in input) []any { return results(impl.MostPeaceful(in.board, in.leaper)) }},
	{"FirstPeaceful", "blg", func(in input) []any { return results(impl.FirstPeaceful(in.board, in.leaper)) }},
	{"CountMost", "blg", func(in input) []any { return results(impl.CountMost(in.board, in.leaper)) }},
	{"CountPeaceful", "blg", func(in input) []any { return results(impl.CountPeaceful(in.board, in.leaper)) }},
	{"CountPeacefulOf", "blgv", func(in input) []any { return results(impl.CountPeacefulOf(in.board, in.leaper, in.size)) }},
	{"MostPairs", "bl", func(in input) []any { return results(impl.MostPairs(in.board, in.leaper)) }},
	{"FillPeaceful", "blrq", func(in input) []any { return results(impl.FillPeaceful(in.board, in.leaper, in.set)) }},
	{"FewestPeacefulGuards", "blg", func(in input) []any { return results(impl.FewestPeacefulGuards(in.board, in.leaper)) }},
}

// noSets are lists that are no sets of the board of goodInput, with the holes 3, 5, 7 and 11.
func noSets() [][]int {
	lists := [][]int{{2, 0}, {10, 2, 0}, {0, 2, 1}, {1, 0, 2}, {0, 0}, {0, 2, 2}, {10, 10}, up(0, 12), make([]int, 64), make([]int, 1000), slices.Repeat([]int{0, 2}, 3)}
	for _, n := range append([]int{3, 5, 7, 11, 12, 13}, extremes...) {
		lists = append(lists, []int{n}, []int{0, n}, []int{n, 10}, []int{0, n, 10})
	}
	return lists
}

// addBadSets adds what chapter 5 forbids: lists that are no sets (r), sets that are not peaceful (q), and numbers of cells (v).
func addBadSets(add func(letter string, change func(in *input))) {
	for _, set := range noSets() {
		add("r", func(in *input) { in.set = set })
	}
	for _, set := range [][]int{{0, 6}, {0, 9}, {0, 2, 9}, {0, 1, 8}, {4, 10}, there(goodInput().board)} {
		add("q", func(in *input) { in.set = set })
	}
	for _, n := range append([]int{66, -2}, extremes...) {
		if n != 64 { // an extreme that is right
			add("v", func(in *input) { in.size = n })
		}
	}
}

func TestNumbersOfAnySizeAreInNoSet(t *testing.T) {
	b := goodInput().board
	for _, list := range noSets() {
		if impl.IsSet(b, list) {
			t.Error("IsSet takes", list)
		}
		for _, l := range allLeapers() {
			wants(t, "GuardedBy", results(impl.GuardedBy(b, l, list)), []int(nil), false)
			wants(t, "AreGuards", results(impl.AreGuards(b, l, list)), false, false)
			wants(t, "ArePeaceful", results(impl.ArePeaceful(b, l, list)), false, false)
			wants(t, "FillPeaceful", results(impl.FillPeaceful(b, l, list)), []int(nil), false)
		}
	}
}

func TestNoBoardHasASet(t *testing.T) {
	for _, b := range badBoards() {
		for _, set := range [][]int{nil, {}, {0}, {0, 1}, {2}, {-1}, extremes} {
			if impl.IsSet(b, set) {
				t.Error("IsSet takes", set, "of", b)
			}
		}
	}
}

// Sets are looked for on a board of 16 cells and not on one of 17; what looks for none has no such limit.
func TestMostCellsForSets(t *testing.T) {
	for _, b := range []impl.Board{plain(8, 2), plain(4, 4), keeping(8, 8, 16), keeping(3, 8, 16)} {
		for _, c := range guardCalls {
			in := input{board: b, leaper: single, size: 64}
			if got := c.run(in); got[len(got)-1] == false && c.name != "AreGuards" {
				t.Error(c.name, "fails on 16 cells", b)
			}
		}
	}
	for _, b := range []impl.Board{keeping(8, 3, 17), keeping(8, 8, 17), plain(6, 3), plain(8, 8)} {
		for _, l := range []impl.Leaper{single, knight, {A: 5, B: 5}} {
			hasNoSetsLookedFor(t, b, l)
		}
		evens := slices.DeleteFunc(there(b), func(cell int) bool { return bySums(b)[cell] == 1 })
		wants(t, "IsSet", results(impl.IsSet(b, there(b))), true)
		wants(t, "GuardedBy", results(impl.GuardedBy(b, single, evens)), there(b), true)
		wants(t, "AreGuards", results(impl.AreGuards(b, single, evens)), true, true)
		wants(t, "ArePeaceful", results(impl.ArePeaceful(b, single, evens)), true, true)
		wants(t, "FillPeaceful", results(impl.FillPeaceful(b, single, nil)), evens, true)
		wants(t, "MostPairs", results(impl.MostPairs(b, single)), len(there(b))/2, true)
	}
}

func hasNoSetsLookedFor(t *testing.T, b impl.Board, l impl.Leaper) {
	t.Helper()
	wants(t, "FewestGuards", results(impl.FewestGuards(b, l)), 0, false)
	wants(t, "FirstGuards", results(impl.FirstGuards(b, l)), []int(nil), false)
	wants(t, "CountFewest", results(impl.CountFewest(b, l)), 0, false)
	wants(t, "MostPeaceful", results(impl.MostPeaceful(b, l)), 0, false)
	wants(t, "FirstPeaceful", results(impl.FirstPeaceful(b, l)), []int(nil), false)
	wants(t, "CountMost", results(impl.CountMost(b, l)), 0, false)
	wants(t, "CountPeaceful", results(impl.CountPeaceful(b, l)), 0, false)
	wants(t, "CountPeacefulOf", results(impl.CountPeacefulOf(b, l, 0)), 0, false)
	wants(t, "CountPeacefulOf", results(impl.CountPeacefulOf(b, l, 64)), 0, false)
	wants(t, "FewestPeacefulGuards", results(impl.FewestPeacefulGuards(b, l)), 0, false)
}

func TestHowManyCellsOfPeacefulSets(t *testing.T) {
	for _, b := range []impl.Board{plain(1, 1), plain(4, 4), onlyCell(8, 8, 63)} {
		for _, n := range []int{17, 18, 32, 63, 64} {
			wants(t, named("CountPeacefulOf", n), results(impl.CountPeacefulOf(b, knight, n)), 0, true)
		}
		for _, n := range []int{65, 66, 128, -1, -2, -64} {
			wants(t, named("CountPeacefulOf", n), results(impl.CountPeacefulOf(b, knight, n)), 0, false)
		}
		wants(t, "CountPeacefulOf none", results(impl.CountPeacefulOf(b, knight, 0)), 1, true)
		wants(t, "CountPeacefulOf one", results(impl.CountPeacefulOf(b, knight, 1)), len(there(b)), true)
	}
}
