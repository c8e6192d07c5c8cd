package tests

import (
	"slices"
	"testing"

	"loop.example/g01239/impl"
)

func TestPaintExample(t *testing.T) {
	b := plain(3, 3)
	wants(t, "ChangesColour", results(impl.ChangesColour(knight)), true, true)
	wants(t, "ReachesAll", results(impl.ReachesAll(knight)), true, true)
	wants(t, "TwoColours", results(impl.TwoColours(b, knight)), []int{0, 1, 0, 1, 0, 1, 0, 1, 0}, true)
	wants(t, "ReachesAll 1 1", results(impl.ReachesAll(impl.Leaper{A: 1, B: 1})), false, true)
	wants(t, "CanReachFar 2 2", results(impl.CanReachFar(impl.Leaper{A: 2, B: 2}, 2, 0)), false, true)
	wants(t, "CanReachFar 2 2", results(impl.CanReachFar(impl.Leaper{A: 2, B: 2}, 4, 0)), true, true)
	wants(t, "FewestFar", results(impl.FewestFar(b, knight)), 4, true)
	wants(t, "LeapsFar 1 1", results(impl.LeapsFar(knight, 1, 1)), 2, true)
	wants(t, "LeapsFar 1 0", results(impl.LeapsFar(knight, 1, 0)), 3, true)
	wants(t, "the limits", results(impl.MaxPainted, impl.MaxColours), 16, 9)
}

func TestPaintingsOfOneCell(t *testing.T) {
	for _, b := range []impl.Board{plain(1, 1), onlyCell(3, 2, 5), onlyCell(8, 8, 0), onlyCell(8, 8, 62)} {
		zero := painted(b, func(int, int) int { return 0 })
		even, odd := 1, 0
		if bySums(b)[there(b)[0]] == 1 {
			even, odd = 0, 1
		}
		wants(t, "BalanceOf", results(impl.BalanceOf(b)), even, odd, true)
		wants(t, "PaintBySteps", results(impl.PaintBySteps(b, 1, 1, 2)), bySums(b), true)
		for _, l := range allLeapers() {
			hasNoLeap(t, b, l, zero)
		}
	}
}

// hasNoLeap tests a board on which all colours are a painting.
func hasNoLeap(t *testing.T, b impl.Board, l impl.Leaper, zero []int) {
	t.Helper()
	sides := slices.Repeat([][]int{{1, 0}}, len(there(b)))
	wants(t, "TwoColours", results(impl.TwoColours(b, l)), zero, true)
	wants(t, "SidesOfParts", results(impl.SidesOfParts(b, l)), sides, true)
	wants(t, "FewestFar", results(impl.FewestFar(b, l)), 1, true)
	wants(t, "FirstFar", results(impl.FirstFar(b, l)), zero, true)
	power := 1
	for colour := range 9 {
		all := painted(b, func(int, int) int { return colour })
		counts := make([]int, 9)
		counts[colour] = len(there(b))
		wants(t, named("IsPainting", colour), results(impl.IsPainting(b, l, all)), true, true)
		wants(t, named("IsFarPainting", colour), results(impl.IsFarPainting(b, l, all)), true, true)
		wants(t, named("CellsOfColours", colour), results(impl.CellsOfColours(b, all)), counts, true)
	}
	for colours := 1; colours <= 4; colours++ {
		power = 1
		for range there(b) {
			power *= colours
		}
		wants(t, named("CountPaintings", colours), results(impl.CountPaintings(b, l, colours)), power, true)
	}
}

// leapless are boards of several cells with leapers that cannot leap there.
var leapless = []struct {
	board impl.Board
	l     impl.Leaper
}{
	{plain(2, 2), knight},
	{plain(8, 1), knight},
	{plain(8, 2), impl.Leaper{A: 2, B: 2}},
	{plain(4, 4), impl.Leaper{A: 4, B: 4}},
	{plain(5, 3), impl.Leaper{A: 0, B: 5}},
	{holed(3, 3, 1, 3, 5, 7), single},
	{holed(8, 4, 1, 3, 5, 7, 8, 10, 12, 14, 17, 19, 21, 23, 24, 26, 28, 30), single}, // 16 cells: 4 colours in 4 to the 16th ways
}

func TestPaintingsOfBoardsWithoutALeap(t *testing.T) {
	for _, c := range leapless {
		hasNoLeap(t, c.board, c.l, painted(c.board, func(int, int) int { return 0 }))
	}
}

func TestListsThatArePaintings(t *testing.T) {
	ring := holed(3, 3, 4)
	row, gap := plain(3, 1), holed(3, 1, 1)
	cases := []struct {
		what    string
		board   impl.Board
		l       impl.Leaper
		colours []int
		near    bool
		far     bool
	}{
		{"two colours around", ring, knight, []int{0, 1, 0, 1, -1, 1, 0, 1, 0}, true, false},
		{"three colours around", ring, knight, []int{0, 0, 2, 1, -1, 1, 2, 1, 2}, true, false},
		{"four colours around", ring, knight, []int{0, 3, 2, 1, -1, 1, 2, 3, 0}, true, true},
		{"other four colours", ring, knight, []int{8, 3, 2, 7, -1, 7, 2, 3, 8}, true, true},
		{"eight colours around", ring, knight, []int{8, 7, 6, 5, -1, 3, 2, 1, 0}, true, true},
		{"the first leap of one colour", ring, knight, []int{0, 3, 2, 1, -1, 0, 2, 3, 0}, false, false},
		{"the last leap of one colour", ring, knight, []int{0, 3, 2, 1, -1, 1, 3, 3, 3}, false, false},
		{"no colours", ring, knight, nil, false, false},
		{"too few", ring, knight, []int{0, 3, 2, 1, -1, 1, 2, 3}, false, false},
		{"too many", ring, knight, []int{0, 3, 2, 1, -1, 1, 2, 3, 0, 0}, false, false},
		{"a painted hole", ring, knight, []int{0, 3, 2, 1, 0, 1, 2, 3, 0}, false, false},
		{"a cell without a colour", ring, knight, []int{0, 3, 2, 1, -1, 1, 2, 3, -1}, false, false},
		{"too great a colour", ring, knight, []int{9, 3, 2, 1, -1, 1, 2, 3, 0}, false, false},
		{"a painted middle", plain(3, 3), knight, []int{0, 3, 2, 1, 8, 1, 2, 3, 0}, true, true},
		{"both ends of one colour", row, single, []int{0, 1, 0}, true, false},
		{"different colours", row, single, []int{0, 1, 2}, true, true},
		{"a hole in between", gap, single, []int{0, -1, 0}, true, true},
		{"a hole that is another one", gap, single, []int{-1, 0, 0}, false, false},
	}
	for _, c := range cases {
		wants(t, "IsPainting of "+c.what, results(impl.IsPainting(c.board, c.l, c.colours)), c.near, true)
		wants(t, "IsFarPainting of "+c.what, results(impl.IsFarPainting(c.board, c.l, c.colours)), c.far, true)
	}
}

func TestTwoColoursAndSides(t *testing.T) {
	cases := []struct {
		board   impl.Board
		l       impl.Leaper
		colours []int
		sides   [][]int
	}{
		{plain(3, 3), knight, []int{0, 1, 0, 1, 0, 1, 0, 1, 0}, [][]int{{4, 4}, {1, 0}}},
		{holed(3, 3, 0), knight, []int{-1, 0, 1, 0, 0, 0, 1, 0, 1}, [][]int{{4, 3}, {1, 0}}},
		{plain(4, 2), knight, []int{0, 0, 0, 0, 1, 1, 1, 1}, [][]int{{1, 1}, {1, 1}, {1, 1}, {1, 1}}},
		{plain(3, 2), impl.Leaper{A: 1, B: 1}, []int{0, 0, 0, 1, 1, 1}, [][]int{{2, 1}, {1, 2}}},
		{plain(5, 1), impl.Leaper{A: 0, B: 2}, []int{0, 0, 1, 1, 0}, [][]int{{2, 1}, {1, 1}}},
		{holed(5, 1, 0, 2), single, []int{-1, 0, -1, 0, 1}, [][]int{{1, 0}, {1, 1}}},
		{holed(3, 2, 1), single, []int{0, -1, 0, 1, 0, 1}, [][]int{{3, 2}}},
		{holed(4, 1, 0), single, []int{-1, 0, 1, 0}, [][]int{{2, 1}}},
	}
	for _, c := range cases {
		wants(t, "TwoColours", results(impl.TwoColours(c.board, c.l)), c.colours, true)
		wants(t, "SidesOfParts", results(impl.SidesOfParts(c.board, c.l)), c.sides, true)
	}
	wants(t, "SidesOfParts of 64 cells", results(impl.SidesOfParts(plain(8, 8), knight)), [][]int{{32, 32}}, true)
	wants(t, "TwoColours of 64 cells", results(impl.TwoColours(plain(8, 8), knight)), bySums(plain(8, 8)), true)
}

func TestFirstFar(t *testing.T) {
	cases := []struct {
		board   impl.Board
		l       impl.Leaper
		fewest  int
		colours []int
	}{
		{plain(3, 3), knight, 4, []int{0, 0, 1, 2, 0, 1, 2, 3, 3}},
		{plain(3, 1), single, 3, []int{0, 1, 2}},
		{plain(8, 1), single, 3, []int{0, 1, 2, 0, 1, 2, 0, 1}},
		{holed(3, 1, 1), single, 1, []int{0, -1, 0}},
		{plain(2, 1), single, 2, []int{0, 1}},
		{plain(2, 2), single, 4, []int{0, 1, 2, 3}},
		{holed(3, 3, 4), single, 4, []int{0, 1, 2, 2, -1, 3, 3, 0, 1}},
		{holed(3, 3, 0, 2, 6, 8), single, 5, []int{-1, 0, -1, 1, 2, 3, -1, 4, -1}},
		{plain(4, 4), single, 5, []int{0, 1, 2, 3, 2, 3, 4, 0, 4, 0, 1, 2, 1, 2, 3, 4}},
		{plain(4, 2), knight, 2, []int{0, 0, 0, 0, 1, 1, 1, 1}},
		{holed(5, 5, 0, 2, 4, 6, 7, 8, 10, 11, 13, 14, 16, 17, 18, 20, 22, 24), knight, 9, []int{-1, 0, -1, 1, -1, 2, -1, -1, -1, 3, -1, -1, 4, -1, -1, 5, -1, -1, -1, 6, -1, 7, -1, 8, -1}},
	}
	for _, c := range cases {
		wants(t, "FewestFar", results(impl.FewestFar(c.board, c.l)), c.fewest, true)
		wants(t, "FirstFar", results(impl.FirstFar(c.board, c.l)), c.colours, true)
	}
}

func TestCountPaintings(t *testing.T) {
	cases := []struct {
		board impl.Board
		l     impl.Leaper
		ways  [4]int
	}{
		{plain(2, 1), single, [4]int{0, 2, 6, 12}},
		{plain(3, 1), single, [4]int{0, 2, 12, 36}},
		{plain(8, 1), single, [4]int{0, 2, 384, 8748}},
		{plain(2, 2), single, [4]int{0, 2, 18, 84}},
		{plain(3, 3), single, [4]int{0, 2, 246, 9612}},
		{plain(4, 4), single, [4]int{0, 2, 7812, 6000732}},
		{plain(8, 2), single, [4]int{0, 2, 13122, 9882516}},
		{holed(3, 3, 4), single, [4]int{0, 2, 258, 6564}},                  // one round of eight cells
		{holed(3, 3, 4), knight, [4]int{0, 2, 258, 6564}},                  // another one
		{plain(3, 3), knight, [4]int{0, 4, 774, 26256}},                    // and the middle, which may have any colour
		{plain(4, 2), knight, [4]int{0, 16, 1296, 20736}},                  // four pairs
		{plain(8, 2), knight, [4]int{0, 16, 331776, 136048896}},            // four parts of four cells, one behind the other
		{holed(8, 3, up(8, 8)...), single, [4]int{0, 4, 147456, 76527504}}, // two rows
		{plain(1, 1), single, [4]int{1, 2, 3, 4}},
	}
	for _, c := range cases {
		for i, ways := range c.ways {
			wants(t, named("CountPaintings", c.board.Wide, c.board.High, i+1), results(impl.CountPaintings(c.board, c.l, i+1)), ways, true)
		}
	}
}

func TestPaintBySteps(t *testing.T) {
	b := holed(4, 3, 3, 5, 7, 11)
	cases := []struct {
		p, q, m int
		colours []int
	}{
		{0, 0, 1, []int{0, 0, 0, -1, 0, -1, 0, -1, 0, 0, 0, -1}},
		{1, 1, 2, []int{0, 1, 0, -1, 1, -1, 1, -1, 0, 1, 0, -1}},
		{1, 0, 9, []int{0, 1, 2, -1, 0, -1, 2, -1, 0, 1, 2, -1}},
		{0, 1, 9, []int{0, 0, 0, -1, 1, -1, 1, -1, 2, 2, 2, -1}},
		{8, 8, 9, []int{0, 8, 7, -1, 8, -1, 6, -1, 7, 6, 5, -1}},
		{1, 2, 5, []int{0, 1, 2, -1, 2, -1, 4, -1, 4, 0, 1, -1}},
	}
	for _, c := range cases {
		wants(t, named("PaintBySteps", c.p, c.q, c.m), results(impl.PaintBySteps(b, c.p, c.q, c.m)), c.colours, true)
	}
	wants(t, "DoesPaint by 1 1 2", results(impl.DoesPaint(knight, 1, 1, 2)), true, true)
	wants(t, "DoesPaint by 0 0 1", results(impl.DoesPaint(knight, 0, 0, 1)), false, true)
	wants(t, "DoesPaint by 1 2 5", results(impl.DoesPaint(knight, 1, 2, 5)), false, true) // 1, 2 changes nothing
	wants(t, "DoesPaint by 1 1 3", results(impl.DoesPaint(knight, 1, 1, 3)), false, true)
	wants(t, "DoesPaint by 1 3 5", results(impl.DoesPaint(knight, 1, 3, 5)), false, true)
	wants(t, "DoesPaint by 1 0 4", results(impl.DoesPaint(knight, 1, 0, 4)), true, true)
	wants(t, "DoesPaint by 1 1 2", results(impl.DoesPaint(impl.Leaper{A: 1, B: 1}, 1, 1, 2)), false, true)
	wants(t, "DoesPaint by 1 0 2", results(impl.DoesPaint(impl.Leaper{A: 1, B: 1}, 1, 0, 2)), true, true)
}

func TestCellsOfColours(t *testing.T) {
	wants(t, "CellsOfColours", results(impl.CellsOfColours(holed(4, 2, 3, 4), []int{8, 0, 3, -1, -1, 8, 8, 7})), []int{1, 0, 0, 1, 0, 0, 0, 1, 3}, true)
	wants(t, "CellsOfColours", results(impl.CellsOfColours(plain(1, 1), []int{4})), []int{0, 0, 0, 0, 1, 0, 0, 0, 0}, true)
	wants(t, "CellsOfColours", results(impl.CellsOfColours(plain(1, 1), []int{-1})), []int(nil), false)
	wants(t, "CellsOfColours", results(impl.CellsOfColours(plain(8, 8), bySums(plain(8, 8)))), []int{32, 32, 0, 0, 0, 0, 0, 0, 0}, true)
}

func TestBalanceOf(t *testing.T) {
	wants(t, "BalanceOf 3 3", results(impl.BalanceOf(plain(3, 3))), 5, 4, true)
	wants(t, "BalanceOf 8 8", results(impl.BalanceOf(plain(8, 8))), 32, 32, true)
	wants(t, "BalanceOf 5 1", results(impl.BalanceOf(plain(5, 1))), 3, 2, true)
	wants(t, "BalanceOf 4 2 with holes", results(impl.BalanceOf(holed(4, 2, 0, 2, 5))), 1, 4, true)
	wants(t, "BalanceOf of an odd cell", results(impl.BalanceOf(onlyCell(4, 2, 4))), 0, 1, true)
}

func TestWhatNeverChanges(t *testing.T) {
	cases := []struct {
		a, b    int
		changes bool
		common  int
		all     bool
	}{
		{0, 1, true, 1, true}, {1, 1, false, 1, false}, {0, 2, false, 2, false}, {1, 2, true, 1, true}, {2, 2, false, 2, false},
		{0, 3, true, 3, false}, {1, 3, false, 1, false}, {2, 3, true, 1, true}, {3, 3, false, 3, false}, {0, 4, false, 4, false},
		{1, 4, true, 1, true}, {2, 4, false, 2, false}, {3, 4, true, 1, true}, {4, 4, false, 4, false}, {0, 5, true, 5, false},
		{1, 5, false, 1, false}, {2, 5, true, 1, true}, {3, 5, false, 1, false}, {4, 5, true, 1, true}, {5, 5, false, 5, false},
	}
	for _, c := range cases {
		l := impl.Leaper{A: c.a, B: c.b}
		wants(t, named("ChangesColour", c.a, c.b), results(impl.ChangesColour(l)), c.changes, true)
		wants(t, named("CommonStep", c.a, c.b), results(impl.CommonStep(l)), c.common, true)
		wants(t, named("ReachesAll", c.a, c.b), results(impl.ReachesAll(l)), c.all, true)
	}
}

func TestCellsOfThePlane(t *testing.T) {
	cases := []struct {
		a, b, x, y int
		reached    bool
		leaps      int
	}{
		{1, 2, 0, 0, true, 0}, {5, 5, 0, 0, true, 0}, {1, 2, 2, -1, true, 1}, {1, 2, -2, -2, true, 4}, {1, 2, 6, -6, true, 4},
		{0, 1, -3, 4, true, 7}, {0, 2, 3, 4, false, 0}, {0, 2, -4, 4, true, 4}, {1, 1, 0, 1, false, 0}, {1, 1, 6, -2, true, 6},
		{1, 3, 1, 1, true, 3}, {1, 3, -2, -1, false, 0}, {2, 2, 2, 0, false, 0}, {2, 2, -4, 0, true, 2}, {2, 4, 2, 0, true, 3},
		{2, 4, 1, 0, false, 0}, {3, 3, 3, -3, true, 1}, {3, 3, 3, 0, false, 0}, {0, 5, 5, -5, true, 2}, {0, 5, 1, 0, false, 0},
		{4, 5, 1, 0, true, 9}, {4, 5, -1, 1, true, 2}, {3, 5, 1, 1, true, 5}, {5, 5, 5, -5, true, 1}, {5, 5, 5, 0, false, 0},
	}
	for _, c := range cases {
		l := impl.Leaper{A: c.a, B: c.b}
		wants(t, named("CanReachFar", c.a, c.b, c.x, c.y), results(impl.CanReachFar(l, c.x, c.y)), c.reached, true)
		wants(t, named("LeapsFar", c.a, c.b, c.x, c.y), results(impl.LeapsFar(l, c.x, c.y)), c.leaps, c.reached)
	}
}
