package tests

import (
	"slices"
	"testing"

	"loop.example/g01239/impl"
)

func TestGuardExample(t *testing.T) {
	b := plain(3, 3)
	wants(t, "FewestGuards", results(impl.FewestGuards(b, knight)), 4, true)
	wants(t, "GuardedBy the middle", results(impl.GuardedBy(b, knight, []int{4})), []int{4}, true)
	for _, cell := range ring {
		guarded, ok := impl.GuardedBy(b, knight, []int{cell})
		wants(t, named("GuardedBy", cell), results(len(guarded), ok), 3, true)
	}
	wants(t, "MostPeaceful", results(impl.MostPeaceful(b, knight)), 5, true)
	wants(t, "CountMost", results(impl.CountMost(b, knight)), 2, true)
	wants(t, "FirstPeaceful", results(impl.FirstPeaceful(b, knight)), []int{0, 2, 4, 6, 8}, true)
	wants(t, "CountPeacefulOf", results(impl.CountPeacefulOf(b, knight, 2)), 28, true)
	wants(t, "the limit", results(impl.MaxGuarded), 16)
}

func TestSetsOfOneCell(t *testing.T) {
	for _, b := range []impl.Board{plain(1, 1), onlyCell(3, 2, 5), onlyCell(8, 8, 0), onlyCell(8, 8, 63)} {
		for _, l := range allLeapers() {
			hasLoneCells(t, b, l)
		}
	}
}

// hasLoneCells tests a board without a leap: guards are on all cells, and all sets are peaceful.
func hasLoneCells(t *testing.T, b impl.Board, l impl.Leaper) {
	t.Helper()
	cells := there(b)
	n := len(cells)
	for _, set := range [][]int{nil, {}, cells[:1], cells[n-1:], cells[:n/2], cells} {
		wants(t, "IsSet", results(impl.IsSet(b, set)), true)
		wants(t, "GuardedBy", results(impl.GuardedBy(b, l, set)), set, true)
		wants(t, "AreGuards", results(impl.AreGuards(b, l, set)), len(set) == n, true)
		wants(t, "ArePeaceful", results(impl.ArePeaceful(b, l, set)), true, true)
		wants(t, "FillPeaceful", results(impl.FillPeaceful(b, l, set)), cells, true)
	}
	wants(t, "FewestGuards", results(impl.FewestGuards(b, l)), n, true)
	wants(t, "FirstGuards", results(impl.FirstGuards(b, l)), cells, true)
	wants(t, "CountFewest", results(impl.CountFewest(b, l)), 1, true)
	wants(t, "MostPeaceful", results(impl.MostPeaceful(b, l)), n, true)
	wants(t, "FirstPeaceful", results(impl.FirstPeaceful(b, l)), cells, true)
	wants(t, "CountMost", results(impl.CountMost(b, l)), 1, true)
	wants(t, "CountPeaceful", results(impl.CountPeaceful(b, l)), 1<<n, true)
	ways := 1
	for size := range n + 2 {
		wants(t, named("CountPeacefulOf", size), results(impl.CountPeacefulOf(b, l, size)), ways, true)
		ways = ways * (n - size) / (size + 1)
	}
	wants(t, "MostPairs", results(impl.MostPairs(b, l)), 0, true)
	wants(t, "FewestPeacefulGuards", results(impl.FewestPeacefulGuards(b, l)), n, true)
}

func TestSetsOfBoardsWithoutALeap(t *testing.T) {
	for _, c := range leapless {
		hasLoneCells(t, c.board, c.l)
	}
}

func TestSetsWithoutCells(t *testing.T) {
	for _, b := range manyBoards() {
		for _, l := range []impl.Leaper{knight, single, {A: 5, B: 5}} {
			for _, none := range [][]int{nil, {}} {
				wants(t, "IsSet", results(impl.IsSet(b, none)), true)
				wants(t, "GuardedBy", results(impl.GuardedBy(b, l, none)), none, true)
				wants(t, "AreGuards", results(impl.AreGuards(b, l, none)), false, true)
				wants(t, "ArePeaceful", results(impl.ArePeaceful(b, l, none)), true, true)
			}
		}
	}
}

func TestListsThatAreSets(t *testing.T) {
	b := holed(4, 3, 3, 5, 7, 11)
	for _, set := range [][]int{{0}, {10}, {0, 1}, {0, 10}, {8, 9, 10}, there(b)} {
		wants(t, named("IsSet", set...), results(impl.IsSet(b, set)), true)
	}
	for _, set := range [][]int{{3}, {11}, {12}, {-1}, {1, 0}, {0, 0}, {0, 3}, {5, 6}, {10, 11}, append(there(b), 12), append(there(b), 10)} {
		wants(t, named("IsSet", set...), results(impl.IsSet(b, set)), false)
	}
	wants(t, "IsSet of all", results(impl.IsSet(plain(8, 8), up(0, 64))), true)
	wants(t, "IsSet of more", results(impl.IsSet(plain(8, 8), up(0, 65))), false)
	wants(t, "IsSet of the last one", results(impl.IsSet(plain(8, 8), []int{63})), true)
	wants(t, "IsSet of a wider board", results(impl.IsSet(plain(4, 1), []int{3, 4})), false)
}

func TestGuardedBy(t *testing.T) {
	cases := []struct {
		board   impl.Board
		l       impl.Leaper
		set     []int
		guarded []int
	}{
		{plain(3, 3), knight, []int{0}, []int{0, 5, 7}},
		{plain(3, 3), knight, []int{0, 5}, []int{0, 5, 6, 7}},
		{holed(3, 3, 5), knight, []int{0}, []int{0, 7}},
		{holed(3, 3, 5), knight, []int{0, 8}, []int{0, 1, 3, 7, 8}},
		{plain(3, 3), single, []int{4}, []int{1, 3, 4, 5, 7}},
		{plain(4, 2), single, []int{3}, []int{2, 3, 7}}, // not beyond the end of the row
		{plain(4, 2), single, []int{4}, []int{0, 4, 5}},
		{plain(8, 8), impl.Leaper{A: 0, B: 5}, []int{0, 63}, []int{0, 5, 23, 40, 58, 63}},
		{plain(8, 8), knight, up(0, 64), up(0, 64)},
	}
	for _, c := range cases {
		wants(t, named("GuardedBy", c.set...), results(impl.GuardedBy(c.board, c.l, c.set)), c.guarded, true)
		wants(t, named("AreGuards", c.set...), results(impl.AreGuards(c.board, c.l, c.set)), len(c.guarded) == len(there(c.board)), true)
	}
	wants(t, "AreGuards", results(impl.AreGuards(plain(3, 3), knight, []int{0, 1, 2, 4})), true, true)
	wants(t, "AreGuards", results(impl.AreGuards(plain(3, 3), knight, []int{0, 1, 2, 3})), false, true) // the middle
	wants(t, "AreGuards", results(impl.AreGuards(holed(3, 3, 4), knight, []int{0, 1, 2})), true, true)
	knights := []int{10, 18, 19, 21, 22, 29, 34, 41, 42, 44, 45, 53}
	wants(t, "AreGuards of 12", results(impl.AreGuards(plain(8, 8), knight, knights)), true, true)
	wants(t, "AreGuards of 11", results(impl.AreGuards(plain(8, 8), knight, knights[1:])), false, true)
}

func TestFewestGuards(t *testing.T) {
	cases := []struct {
		board  impl.Board
		l      impl.Leaper
		first  []int
		count  int
		quiet  int
		reason string
	}{
		{plain(3, 3), knight, []int{0, 1, 2, 4}, 8, 4, "the middle, and three on the ring"},
		{holed(3, 3, 4), knight, []int{0, 1, 2}, 8, 3, "the ring"},
		{plain(2, 1), single, []int{0}, 2, 1, "a pair"},
		{plain(3, 1), single, []int{1}, 1, 1, "the middle guards all"},
		{plain(4, 1), single, []int{0, 2}, 4, 2, "two at different ends"},
		{holed(3, 1, 1), single, []int{0, 2}, 1, 2, "two lone cells"},
		{plain(2, 2), single, []int{0, 1}, 6, 2, "any two"},
		{plain(3, 3), single, []int{0, 2, 7}, 10, 3, "a grid of 3 by 3"},
		{plain(4, 4), single, []int{1, 7, 8, 14}, 2, 4, "a grid of 4 by 4"},
		{holed(5, 5, 0, 2, 4, 6, 8, 10, 11, 13, 14, 16, 18, 20, 22, 24), single, []int{1, 3, 5, 9, 12, 15, 19, 21, 23}, 1, 9, "eight lone cells, and the middle of a row of three"},
		{holed(5, 3, 0, 2, 4, 10, 12, 14), single, []int{6, 8}, 1, 2, "two next but one, with two cells around each"},
		{holed(4, 3, 0, 3, 8, 11), single, []int{5, 6}, 1, 4, "two side by side, with three cells around each"},
	}
	for _, c := range cases {
		wants(t, "FewestGuards: "+c.reason, results(impl.FewestGuards(c.board, c.l)), len(c.first), true)
		wants(t, "FirstGuards: "+c.reason, results(impl.FirstGuards(c.board, c.l)), c.first, true)
		wants(t, "CountFewest: "+c.reason, results(impl.CountFewest(c.board, c.l)), c.count, true)
		wants(t, "FewestPeacefulGuards: "+c.reason, results(impl.FewestPeacefulGuards(c.board, c.l)), c.quiet, true)
	}
}

func TestArePeaceful(t *testing.T) {
	cases := []struct {
		board    impl.Board
		l        impl.Leaper
		set      []int
		peaceful bool
	}{
		{plain(3, 3), knight, []int{0, 2, 4, 6, 8}, true},
		{plain(3, 3), knight, []int{0, 5}, false},
		{plain(3, 3), knight, []int{0, 2, 4, 7}, false}, // the first and the last one
		{plain(3, 3), knight, []int{0, 3, 8}, false},
		{plain(3, 3), single, []int{0, 2, 4, 6, 8}, true},
		{plain(4, 2), single, []int{3, 4}, true}, // one ends a row, the other one begins the next one
		{plain(4, 2), single, []int{0, 4}, false},
		{holed(3, 1, 1), single, []int{0, 2}, true},
		{plain(8, 8), knight, up(0, 64), false},
		{plain(8, 8), knight, up(0, 16), false},
		{plain(8, 8), knight, up(0, 8), true},
		{plain(8, 8), impl.Leaper{A: 5, B: 5}, []int{0, 45}, false},
	}
	for _, c := range cases {
		wants(t, named("ArePeaceful", c.set...), results(impl.ArePeaceful(c.board, c.l, c.set)), c.peaceful, true)
	}
}

func TestGreatestPeacefulSets(t *testing.T) {
	cases := []struct {
		board impl.Board
		l     impl.Leaper
		first []int
		most  int // how many there are of so many cells
		all   int
		pairs int
	}{
		{plain(3, 3), knight, []int{0, 2, 4, 6, 8}, 2, 94, 4},
		{holed(3, 3, 4), knight, []int{0, 2, 6, 8}, 2, 47, 4},
		{plain(4, 4), knight, []int{0, 1, 2, 3, 12, 13, 14, 15}, 6, 1365, 8},
		{plain(4, 4), single, []int{0, 2, 5, 7, 8, 10, 13, 15}, 2, 1234, 8},
		{plain(3, 3), single, []int{0, 2, 4, 6, 8}, 1, 63, 4},
		{plain(2, 2), single, []int{0, 3}, 2, 7, 2},
		{plain(8, 1), single, []int{0, 2, 4, 6}, 5, 55, 4},
		{plain(7, 1), single, []int{0, 2, 4, 6}, 1, 34, 3},
		{holed(7, 1, 3), single, []int{0, 2, 4, 6}, 1, 25, 2},
		{plain(2, 1), single, []int{0}, 2, 3, 1},
	}
	for _, c := range cases {
		wants(t, "MostPeaceful", results(impl.MostPeaceful(c.board, c.l)), len(c.first), true)
		wants(t, "FirstPeaceful", results(impl.FirstPeaceful(c.board, c.l)), c.first, true)
		wants(t, "CountMost", results(impl.CountMost(c.board, c.l)), c.most, true)
		wants(t, "CountPeaceful", results(impl.CountPeaceful(c.board, c.l)), c.all, true)
		wants(t, "MostPairs", results(impl.MostPairs(c.board, c.l)), c.pairs, true)
		sum := 0
		for size := range 65 {
			n, ok := impl.CountPeacefulOf(c.board, c.l, size)
			if !ok || size > len(c.first) && n > 0 {
				t.Error(named("CountPeacefulOf", size), "returned", n, ok)
			}
			sum += n
		}
		wants(t, "CountPeacefulOf all", results(sum), c.all)
		wants(t, "CountPeacefulOf the most", results(impl.CountPeacefulOf(c.board, c.l, len(c.first))), c.most, true)
	}
}

func TestMostPairs(t *testing.T) {
	cases := []struct {
		board impl.Board
		l     impl.Leaper
		pairs int
	}{
		{plain(8, 8), knight, 32},
		{plain(7, 7), knight, 24},
		{plain(8, 8), single, 32},
		{plain(7, 7), single, 24},
		{holed(8, 8, 0, 63), single, 31 - 1}, // two corners of one colour
		{holed(8, 8, 0, 7), single, 31},
		{plain(8, 8), impl.Leaper{A: 5, B: 5}, 18},
		{plain(8, 8), impl.Leaper{A: 4, B: 4}, 32},
		{plain(5, 5), impl.Leaper{A: 1, B: 1}, 4 + 6},
		{holed(3, 3, 0, 2, 6, 8), single, 1}, // a cross
		{holed(4, 1, 0), single, 1},
		{plain(3, 2), knight, 2},
	}
	for _, c := range cases {
		wants(t, named("MostPairs", c.board.Wide, c.board.High, c.l.A, c.l.B), results(impl.MostPairs(c.board, c.l)), c.pairs, true)
	}
}

func TestFillPeaceful(t *testing.T) {
	cases := []struct {
		board  impl.Board
		l      impl.Leaper
		set    []int
		filled []int
	}{
		{plain(3, 3), knight, nil, []int{0, 1, 2, 4}},
		{plain(3, 3), knight, []int{3}, []int{0, 1, 3, 4}},
		{plain(3, 3), knight, []int{0, 8}, []int{0, 2, 4, 6, 8}},
		{plain(3, 3), knight, []int{0, 2, 4, 6, 8}, []int{0, 2, 4, 6, 8}},
		{holed(3, 3, 1), knight, []int{8}, []int{0, 2, 4, 6, 8}},
		{plain(8, 1), single, []int{7}, []int{0, 2, 4, 7}},
		{plain(8, 1), single, []int{3}, []int{0, 3, 5, 7}},
		{plain(4, 2), single, []int{3, 4}, []int{1, 3, 4, 6}},
	}
	for _, c := range cases {
		wants(t, named("FillPeaceful", c.set...), results(impl.FillPeaceful(c.board, c.l, c.set)), c.filled, true)
		wants(t, "AreGuards", results(impl.AreGuards(c.board, c.l, c.filled)), true, true)
	}
	for _, set := range [][]int{{0, 5}, {1, 3, 8}, {0, 2, 4, 7}, up(0, 9)} {
		wants(t, named("FillPeaceful", set...), results(impl.FillPeaceful(plain(3, 3), knight, set)), []int(nil), false)
	}
	rows := slices.Concat(up(0, 8), up(8, 8), up(32, 8), up(40, 8))
	blocks := []int{0, 1, 4, 5, 8, 9, 12, 13, 18, 19, 22, 23, 26, 27, 30, 31, 32, 33, 36, 37, 40, 41, 44, 45, 50, 51, 54, 55, 58, 59, 62, 63}
	wants(t, "FillPeaceful of rows", results(impl.FillPeaceful(plain(8, 8), impl.Leaper{A: 0, B: 2}, nil)), blocks, true)
	wants(t, "ArePeaceful", results(impl.ArePeaceful(plain(8, 8), impl.Leaper{A: 0, B: 2}, rows)), false, true)
}
