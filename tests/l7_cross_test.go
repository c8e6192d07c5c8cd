package tests

import (
	"slices"
	"testing"

	"loop.example/g01239/impl"
)

// double goes over the cells to which single goes, and aslant over those at the corners.
var (
	double = impl.Leaper{A: 0, B: 2}
	aslant = impl.Leaper{A: 2, B: 2}
)

func TestCrossExample(t *testing.T) {
	b := plain(3, 3)
	wants(t, "DoLeapsCross", results(impl.DoLeapsCross(b, knight, []int{0, 5}, []int{2, 3})), true, true)
	wants(t, "DoLeapsCross", results(impl.DoLeapsCross(b, knight, []int{0, 5}, []int{1, 6})), true, true)
	wants(t, "LongestUncrossed", results(impl.LongestUncrossed(b, knight)), []int{0, 5, 6}, true)
	wants(t, "CountCrossings", results(impl.CountCrossings(b, knight, ring)), 12, true)
	b, round := plain(4, 4), []int{1, 7, 14, 8}
	wants(t, "IsRing", results(impl.IsRing(b, knight, round)), true, true)
	wants(t, "TwiceArea", results(impl.TwiceArea(b, knight, round)), 10, true)
	wants(t, "InsideRing", results(impl.InsideRing(b, knight, round)), []int{5, 6, 9, 10}, true)
	wants(t, "PointsInside", results(impl.PointsInside(b, knight, round)), 4, true)
	wants(t, "PointsOnRing", results(impl.PointsOnRing(b, knight, round)), 4, true)
	wants(t, "the limit", results(impl.MaxUncrossed), 16)
}

func TestCrossingsOfOneCell(t *testing.T) {
	for _, b := range []impl.Board{plain(1, 1), onlyCell(3, 2, 5), onlyCell(8, 8, 0), onlyCell(8, 8, 63)} {
		for _, l := range allLeapers() {
			isPoint(t, b, l, there(b)[0])
			wants(t, "LongestUncrossed", results(impl.LongestUncrossed(b, l)), there(b), true)
			wants(t, "MostApart", results(impl.MostApart(b, l)), 0, true)
			for n := 3; n <= 8; n++ {
				wants(t, named("LargestRing", n), results(impl.LargestRing(b, l, n)), []int(nil), false)
			}
		}
	}
	for _, cell := range there(holed(4, 3, 3, 5, 7, 11)) {
		isPoint(t, holed(4, 3, 3, 5, 7, 11), knight, cell)
	}
}

// isPoint asks all that is told of a path of one cell, which has no leap.
func isPoint(t *testing.T, b impl.Board, l impl.Leaper, cell int) {
	t.Helper()
	path := []int{cell}
	wants(t, "CountCrossings", results(impl.CountCrossings(b, l, path)), 0, true)
	wants(t, "IsUncrossed", results(impl.IsUncrossed(b, l, path)), true, true)
	wants(t, "TurnsOfPath", results(impl.TurnsOfPath(b, l, path)), 0, 0, 0, true)
	wants(t, "BackPath", results(impl.BackPath(b, l, path)), path, true)
	wants(t, "DoLeapsCross", results(impl.DoLeapsCross(b, l, path, path)), false, false)
	wants(t, "DoLeapsCross there", results(impl.DoLeapsCross(b, l, []int{cell, cell}, []int{cell, cell})), false, false)
	wants(t, "CrossedLeaps", results(impl.CrossedLeaps(b, l, cell, cell)), [][]int(nil), false)
	isNoRing(t, b, l, path)
}

// isNoRing asks all that is told of rings of a list that is none.
func isNoRing(t *testing.T, b impl.Board, l impl.Leaper, list []int) {
	t.Helper()
	wants(t, named("IsRing", list...), results(impl.IsRing(b, l, list)), false, true)
	wants(t, named("TwiceArea", list...), results(impl.TwiceArea(b, l, list)), 0, false)
	wants(t, named("InsideRing", list...), results(impl.InsideRing(b, l, list)), []int(nil), false)
	wants(t, named("PointsInside", list...), results(impl.PointsInside(b, l, list)), 0, false)
	wants(t, named("PointsOnRing", list...), results(impl.PointsOnRing(b, l, list)), 0, false)
}

func TestCrossingsOfTwoCells(t *testing.T) {
	b := holed(3, 2, 1, 2)
	walk := []int{5, 0}
	wants(t, "CountCrossings", results(impl.CountCrossings(b, knight, walk)), 0, true)
	wants(t, "IsUncrossed", results(impl.IsUncrossed(b, knight, walk)), true, true)
	wants(t, "TurnsOfPath", results(impl.TurnsOfPath(b, knight, walk)), 0, 0, 0, true)
	wants(t, "BackPath", results(impl.BackPath(b, knight, walk)), []int{0, 5}, true)
	wants(t, "LongestUncrossed", results(impl.LongestUncrossed(b, knight)), []int{0, 5}, true)
	wants(t, "CrossedLeaps", results(impl.CrossedLeaps(b, knight, 5, 0)), [][]int{{0, 5}}, true)
	wants(t, "MostApart", results(impl.MostApart(b, knight)), 1, true)
	wants(t, "LargestRing", results(impl.LargestRing(b, knight, 3)), []int(nil), false)
	isNoRing(t, b, knight, walk)
}

func TestLeapsThatCross(t *testing.T) {
	cases := []struct {
		what  string
		board impl.Board
		l     impl.Leaper
		p     []int
		q     []int
		cross bool
	}{
		{"in the middle of both", plain(3, 3), double, []int{3, 5}, []int{1, 7}, true},
		{"over a hole", holed(3, 3, 4), double, []int{3, 5}, []int{1, 7}, true},
		{"between cells", plain(3, 3), knight, []int{0, 7}, []int{1, 6}, true},
		{"in the corner of a great board", plain(8, 8), knight, []int{63, 53}, []int{62, 47}, true},
		{"not, as they have one end", plain(3, 3), knight, []int{0, 5}, []int{5, 6}, false},
		{"not, as they have one end before both", plain(3, 3), knight, []int{0, 5}, []int{0, 7}, false},
		{"not, as one is above the other", plain(4, 4), knight, []int{0, 6}, []int{8, 14}, false},
		{"not, as one ends before the line of the other", plain(5, 4), knight, []int{0, 7}, []int{10, 17}, false},
		{"not, as the other one ends before its line", plain(4, 4), knight, []int{0, 6}, []int{7, 14}, false},
		{"not, as the other one begins behind its end", plain(5, 3), double, []int{5, 7}, []int{3, 13}, false},
		{"as they are the same", plain(3, 3), knight, []int{0, 5}, []int{0, 5}, true},
		{"as they are the same along a row", plain(3, 1), double, []int{0, 2}, []int{0, 2}, true},
		{"as one ends in the middle of the other", plain(3, 3), double, []int{0, 2}, []int{1, 7}, true},
		{"as one ends in the middle of the other upright", plain(3, 3), double, []int{1, 7}, []int{6, 8}, true},
		{"as one ends in the middle of the other aslant", plain(4, 4), aslant, []int{0, 10}, []int{7, 13}, true},
		{"as they overlap along a row", plain(4, 1), double, []int{0, 2}, []int{1, 3}, true},
		{"as they overlap along a column", plain(1, 4), double, []int{0, 2}, []int{1, 3}, true},
		{"as they overlap aslant", plain(4, 4), aslant, []int{0, 10}, []int{5, 15}, true},
		{"as they overlap aslant to the left", plain(4, 4), aslant, []int{3, 9}, []int{6, 12}, true},
		{"as they overlap at their ends", plain(8, 1), impl.Leaper{A: 0, B: 5}, []int{0, 5}, []int{2, 7}, true},
		{"not, as one goes on from the other along a row", plain(5, 1), double, []int{0, 2}, []int{2, 4}, false},
		{"not, as one goes on from the other along a column", plain(1, 5), double, []int{0, 2}, []int{2, 4}, false},
		{"not, as one goes on from the other aslant", plain(5, 5), aslant, []int{0, 12}, []int{12, 24}, false},
		{"not, as one is farther along the row", plain(6, 1), double, []int{0, 2}, []int{3, 5}, false},
		{"not, as one is farther aslant", plain(6, 6), aslant, []int{0, 14}, []int{21, 35}, false},
		{"not, as one is in the next row", plain(4, 2), double, []int{0, 2}, []int{5, 7}, false},
		{"not, as one is in the next column", plain(2, 4), double, []int{0, 4}, []int{3, 7}, false},
		{"not, as one goes on in the next row", plain(4, 2), double, []int{1, 3}, []int{4, 6}, false},
	}
	for _, c := range cases {
		for _, p := range [][]int{c.p, backwards(c.p)} {
			for _, q := range [][]int{c.q, backwards(c.q)} {
				wants(t, "DoLeapsCross "+c.what, results(impl.DoLeapsCross(c.board, c.l, p, q)), c.cross, true)
				wants(t, "DoLeapsCross the other way "+c.what, results(impl.DoLeapsCross(c.board, c.l, q, p)), c.cross, true)
			}
		}
	}
}

// toAndFro goes to and fro between two cells, over so many of them.
func toAndFro(p int, q int, cells int) []int {
	return slices.Repeat([]int{p, q}, cells)[:cells]
}

func TestCrossingsOfPaths(t *testing.T) {
	cases := []struct {
		what      string
		board     impl.Board
		l         impl.Leaper
		path      []int
		crossings int
		walk      bool
	}{
		{"of two leaps", plain(3, 3), knight, ring[:3], 0, true},
		{"of three leaps", plain(3, 3), knight, ring[:4], 1, true},
		{"of seven leaps", plain(3, 3), knight, ring, 12, true},
		{"of all leaps around", plain(3, 3), knight, append(slices.Clone(ring), 0), 16, false},
		{"there and back", plain(3, 3), knight, toAndFro(0, 5, 3), 1, false},
		{"there and back and there", plain(3, 3), knight, toAndFro(0, 5, 4), 3, false},
		{"back and elsewhere", plain(3, 3), knight, []int{0, 5, 0, 7}, 1, false},
		{"back at the first cell", plain(4, 4), knight, []int{1, 7, 14, 8, 1}, 0, false},
		{"twice around", plain(4, 4), knight, []int{1, 7, 14, 8, 1, 7, 14, 8, 1}, 4, false},
		{"straight on", plain(8, 1), single, up(0, 8), 0, true},
		{"straight on over cells", plain(7, 1), double, []int{0, 2, 4, 6}, 0, true},
		{"of 63 leaps", plain(8, 8), single, along(), 0, true},
		{"of 63 leaps to and fro", plain(8, 8), single, toAndFro(0, 1, 64), 63 * 62 / 2, false},
		{"that only the last leap crosses", plain(4, 4), knight, []int{0, 6, 8, 14, 7, 9}, 0, true},
		{"that the last leap crosses", plain(4, 4), knight, []int{6, 8, 14, 7, 9, 0}, 1, true},
	}
	for _, c := range cases {
		wants(t, "CountCrossings "+c.what, results(impl.CountCrossings(c.board, c.l, c.path)), c.crossings, true)
		wants(t, "CountCrossings backwards "+c.what, results(impl.CountCrossings(c.board, c.l, backwards(c.path))), c.crossings, true)
		wants(t, "IsUncrossed "+c.what, results(impl.IsUncrossed(c.board, c.l, c.path)), c.walk && c.crossings == 0, c.walk)
	}
}

func TestTurnsOfPaths(t *testing.T) {
	cases := []struct {
		what     string
		board    impl.Board
		l        impl.Leaper
		path     []int
		left     int
		straight int
		right    int
	}{
		{"to the left", plain(3, 3), knight, ring, 6, 0, 0},
		{"to the right", plain(3, 3), knight, backwards(ring), 0, 0, 6},
		{"around and on", plain(3, 3), knight, append(slices.Clone(ring), 0, 5), 8, 0, 0},
		{"back", plain(3, 3), knight, toAndFro(0, 5, 3), 0, 1, 0},
		{"to and fro", plain(3, 3), knight, toAndFro(0, 5, 64), 0, 62, 0},
		{"straight on", plain(8, 1), single, up(0, 8), 0, 6, 0},
		{"straight on aslant", plain(5, 5), aslant, []int{24, 12, 0}, 0, 1, 0},
		{"straight on as a knight", plain(5, 3), knight, []int{0, 7, 14}, 0, 1, 0},
		{"a little to the left", plain(4, 4), knight, []int{0, 6, 15}, 1, 0, 0},
		{"a little to the right", plain(4, 4), knight, []int{0, 9, 15}, 0, 0, 1},
		{"far to the right", plain(3, 3), knight, []int{0, 7, 2}, 0, 0, 1},
		{"each way", plain(3, 2), single, []int{0, 1, 2, 5, 4, 1}, 3, 1, 0},
		{"to both sides", plain(4, 2), single, []int{0, 4, 5, 1, 2, 3, 2}, 1, 2, 2},
		{"of a round of four", plain(4, 4), knight, []int{1, 7, 14, 8}, 2, 0, 0},
	}
	for _, c := range cases {
		wants(t, "TurnsOfPath "+c.what, results(impl.TurnsOfPath(c.board, c.l, c.path)), c.left, c.straight, c.right, true)
		wants(t, "TurnsOfPath backwards "+c.what, results(impl.TurnsOfPath(c.board, c.l, backwards(c.path))), c.right, c.straight, c.left, true)
		wants(t, "BackPath "+c.what, results(impl.BackPath(c.board, c.l, c.path)), backwards(c.path), true)
	}
}

func TestLongestUncrossed(t *testing.T) {
	cases := []struct {
		board impl.Board
		l     impl.Leaper
		walk  []int
	}{
		{plain(2, 2), knight, []int{0}},
		{plain(4, 4), knight, []int{0, 6, 8, 14, 7, 1}},
		{plain(4, 3), knight, []int{1, 7, 9, 0, 6}},
		{plain(3, 4), knight, []int{3, 10, 5, 0, 7}},
		{plain(5, 3), knight, []int{1, 10, 7, 14, 3, 6}},
		{plain(8, 2), knight, []int{0, 10, 4, 14}},
		{holed(3, 3, 4), knight, []int{0, 5, 6}},
		{holed(3, 3, 0), knight, []int{1, 6, 5}},
		{holed(5, 4, 4, 14, 15, 19), knight, []int{0, 11, 2, 9, 18, 7, 16, 5}},
		{plain(4, 4), single, []int{0, 1, 2, 3, 7, 6, 5, 4, 8, 9, 10, 11, 15, 14, 13, 12}},
		{plain(4, 4), double, []int{0, 2, 10, 8}},
		{plain(4, 4), aslant, []int{0, 10}},
		{plain(8, 1), double, []int{0, 2, 4, 6}},
		{having(0, 63), single, []int{0}},
	}
	for _, c := range cases {
		wants(t, "LongestUncrossed", results(impl.LongestUncrossed(c.board, c.l)), c.walk, true)
		wants(t, "IsUncrossed", results(impl.IsUncrossed(c.board, c.l, c.walk)), true, true)
	}
}

func TestRings(t *testing.T) {
	cases := []struct {
		what   string
		board  impl.Board
		l      impl.Leaper
		ring   []int
		area   int
		inside []int
		on     int
	}{
		{"of a knight", plain(4, 4), knight, []int{0, 6, 15, 9}, 6, []int{5, 10}, 4},
		{"with holes inside", holed(4, 4, 5, 9, 10), knight, []int{1, 7, 14, 8}, 10, []int{5, 6, 9, 10}, 4},
		{"with a hole on a leap", holed(3, 3, 1, 4), double, []int{0, 2, 8, 6}, 8, []int{4}, 8},
		{"around nothing", plain(2, 2), single, []int{0, 1, 3, 2}, 2, nil, 4},
		{"around one cell", plain(3, 3), impl.Leaper{A: 1, B: 1}, []int{1, 5, 7, 3}, 4, []int{4}, 4},
		{"of six knight's leaps", holed(5, 4, 4, 14, 15, 19), knight, []int{9, 18, 7, 16, 5, 2}, 12, []int{6, 8, 11, 13}, 6},
		{"with a notch above", plain(5, 3), single, []int{0, 1, 2, 3, 4, 9, 14, 13, 8, 7, 6, 11, 10, 5}, 12, nil, 14},
		{"with a notch to the left", plain(4, 4), single, []int{0, 1, 2, 3, 7, 11, 15, 14, 13, 12, 8, 9, 10, 6, 5, 4}, 14, nil, 16},
		{"with a notch to the right", plain(5, 4), single, []int{0, 1, 2, 3, 8, 7, 12, 13, 18, 17, 16, 15, 10, 5}, 16, []int{6, 11}, 14},
		{"of 16 cells", plain(8, 8), single, []int{0, 1, 2, 3, 4, 12, 20, 28, 36, 35, 34, 33, 32, 24, 16, 8}, 32, []int{9, 10, 11, 17, 18, 19, 25, 26, 27}, 16},
		{"of long leaps", plain(8, 8), impl.Leaper{A: 0, B: 5}, []int{0, 5, 45, 40}, 50, []int{9, 10, 11, 12, 17, 18, 19, 20, 25, 26, 27, 28, 33, 34, 35, 36}, 20},
		{"of leaps aslant", plain(5, 5), aslant, []int{2, 14, 22, 10}, 16, []int{7, 11, 12, 13, 17}, 8},
	}
	for _, c := range cases {
		inside := len(c.inside)
		for i, list := range spins(c.ring) {
			area := c.area
			if i%2 == 1 { // spins has each list backwards, too
				area = -area
			}
			wants(t, "IsRing "+c.what, results(impl.IsRing(c.board, c.l, list)), true, true)
			wants(t, "TwiceArea "+c.what, results(impl.TwiceArea(c.board, c.l, list)), area, true)
			wants(t, "InsideRing "+c.what, results(impl.InsideRing(c.board, c.l, list)), c.inside, true)
			wants(t, "PointsInside "+c.what, results(impl.PointsInside(c.board, c.l, list)), inside, true)
			wants(t, "PointsOnRing "+c.what, results(impl.PointsOnRing(c.board, c.l, list)), c.on, true)
		}
	}
}

func TestListsThatAreNoRings(t *testing.T) {
	cases := []struct {
		board impl.Board
		l     impl.Leaper
		list  []int
	}{
		{plain(4, 4), knight, nil},
		{plain(4, 4), knight, []int{0}},
		{plain(4, 4), knight, []int{0, 6}},
		{plain(4, 4), knight, []int{0, 6, 15}},         // its last cell does not lead back
		{plain(4, 4), knight, []int{0, 6, 0}},          // a cell twice
		{plain(4, 4), knight, []int{0, 6, 15, 9, 0}},   // the first cell again
		{plain(4, 4), knight, []int{0, 15, 6, 9}},      // no walk
		{plain(4, 4), knight, []int{0, 6, 15, 16 + 9}}, // no cell
		{holed(4, 4, 9), knight, []int{0, 6, 15, 9}},   // a hole
		{plain(3, 3), knight, ring},
		{plain(4, 4), knight, []int{9, 2, 11, 5, 14, 7}},
		{plain(4, 4), knight, []int{0, 6, 8, 14, 7, 9}},                                               // only the leap back crosses another one
		{plain(4, 4), knight, []int{6, 8, 14, 7, 9, 0}},                                               // the same crossing in its walk
		{plain(8, 8), single, along()},                                                                // closed and uncrossed, but of 64 cells
		{plain(8, 8), single, []int{0, 1, 2, 3, 4, 5, 13, 21, 29, 37, 36, 35, 34, 33, 32, 24, 16, 8}}, // of 18 cells
	}
	for _, c := range cases {
		isNoRing(t, c.board, c.l, c.list)
	}
}

func TestCrossedLeaps(t *testing.T) {
	cases := []struct {
		board impl.Board
		l     impl.Leaper
		from  int
		to    int
		leaps [][]int
	}{
		{plain(3, 3), knight, 0, 5, [][]int{{0, 5}, {1, 6}, {1, 8}, {2, 3}, {2, 7}}},
		{holed(3, 3, 1, 4, 7), knight, 0, 5, [][]int{{0, 5}, {2, 3}}},
		{plain(4, 4), knight, 3, 5, [][]int{{0, 6}, {1, 7}, {1, 10}, {2, 9}, {2, 11}, {3, 5}}},
		{plain(3, 3), single, 3, 4, [][]int{{3, 4}}},
		{plain(4, 3), double, 5, 7, [][]int{{1, 9}, {2, 10}, {3, 11}, {4, 6}, {5, 7}}},
		{plain(4, 4), aslant, 0, 10, [][]int{{0, 10}, {2, 8}, {3, 9}, {5, 15}, {6, 12}, {7, 13}}},
		{plain(5, 1), double, 1, 3, [][]int{{0, 2}, {1, 3}, {2, 4}}},
	}
	for _, c := range cases {
		wants(t, named("CrossedLeaps", c.from, c.to), results(impl.CrossedLeaps(c.board, c.l, c.from, c.to)), c.leaps, true)
		wants(t, named("CrossedLeaps", c.to, c.from), results(impl.CrossedLeaps(c.board, c.l, c.to, c.from)), c.leaps, true)
	}
}

func TestMostApart(t *testing.T) {
	cases := []struct {
		board impl.Board
		l     impl.Leaper
		most  int
	}{
		{plain(2, 2), knight, 0},
		{plain(3, 3), knight, 2},
		{plain(4, 4), knight, 6},
		{plain(4, 4), single, 8},
		{plain(5, 3), single, 7},
		{plain(4, 1), single, 2},
		{plain(4, 1), double, 1}, // two leaps that have more than a point in common
		{plain(6, 1), double, 2},
		{plain(3, 3), double, 3},
		{holed(3, 3, 3, 5, 6, 8), double, 1}, // two leaps that touch in the middle of one
		{plain(4, 4), double, 5},
		{plain(4, 4), aslant, 3},
		{plain(3, 2), knight, 1},
		{plain(8, 2), knight, 6},
		{plain(3, 5), impl.Leaper{A: 1, B: 3}, 4},
		{having(0, 63), single, 0},
	}
	for _, c := range cases {
		wants(t, "MostApart", results(impl.MostApart(c.board, c.l)), c.most, true)
	}
}

func TestLargestRing(t *testing.T) {
	cases := []struct {
		board impl.Board
		l     impl.Leaper
		rings [9][]int // by their cells
	}{
		{plain(3, 3), knight, [9][]int{}}, // the round of eight cells crosses itself
		{plain(4, 4), knight, [9][]int{4: {1, 7, 14, 8}}},
		{plain(4, 4), single, [9][]int{4: {0, 1, 5, 4}, 6: {0, 1, 2, 6, 5, 4}, 8: {0, 1, 2, 6, 10, 9, 8, 4}}},
		{holed(4, 4, 0), single, [9][]int{4: {1, 2, 6, 5}, 6: {1, 2, 3, 7, 6, 5}, 8: {1, 2, 3, 7, 11, 10, 9, 5}}},
		{holed(4, 4, 5), single, [9][]int{4: {2, 3, 7, 6}, 6: {2, 3, 7, 11, 10, 6}, 8: {0, 1, 2, 6, 10, 9, 8, 4}}},
		{plain(8, 2), single, [9][]int{4: {0, 1, 9, 8}, 6: {0, 1, 2, 10, 9, 8}, 8: {0, 1, 2, 3, 11, 10, 9, 8}}},
		{plain(5, 3), knight, [9][]int{4: {2, 5, 12, 9}}},
		{plain(5, 3), double, [9][]int{4: {0, 2, 12, 10}, 6: {0, 2, 4, 14, 12, 10}}},
		{holed(5, 4, 4, 14, 15, 19), knight, [9][]int{4: {1, 8, 17, 10}, 6: {2, 5, 16, 7, 18, 9}}},
		{holed(5, 4, 4, 14, 15, 19), impl.Leaper{A: 1, B: 1}, [9][]int{4: {1, 5, 11, 7}, 6: {1, 5, 11, 17, 13, 7}, 8: {1, 5, 11, 17, 13, 9, 3, 7}}},
		{having(0, 63), single, [9][]int{}},
	}
	for _, c := range cases {
		for n := 3; n <= 8; n++ {
			wants(t, named("LargestRing", n), results(impl.LargestRing(c.board, c.l, n)), c.rings[n], c.rings[n] != nil)
		}
	}
}
