package tests

import (
	"slices"
	"testing"

	"loop.example/g01239/impl"
)

func TestFarExample(t *testing.T) {
	b := plain(3, 3)
	first, other := []int{0, 5, 6, 1, 8}, []int{0, 7, 2, 3, 8}
	wants(t, "DistanceBetween a1 c3", results(impl.DistanceBetween(b, knight, 0, 8)), 4, true)
	wants(t, "FirstRoute a1 c3", results(impl.FirstRoute(b, knight, 0, 8)), first, true)
	wants(t, "CountRoutes a1 c3", results(impl.CountRoutes(b, knight, 0, 8)), 2, true)
	wants(t, "CellsOnRoutes a1 c3", results(impl.CellsOnRoutes(b, knight, 0, 8)), []int{0, 1, 2, 3, 5, 6, 7, 8}, true)
	wants(t, "IsRoute of the first route", results(impl.IsRoute(b, knight, first)), true, true)
	wants(t, "IsRoute of the other one", results(impl.IsRoute(b, knight, other)), true, true)
	wants(t, "PartsOfBoard", results(impl.PartsOfBoard(b, knight)), [][]int{{0, 1, 2, 3, 5, 6, 7, 8}, {4}}, true)
	wants(t, "IsWhole", results(impl.IsWhole(b, knight)), false, true)
	wants(t, "DistanceBetween a1 d1", results(impl.DistanceBetween(plain(4, 4), knight, 0, 3)), 5, true)
	wants(t, "MaxLeaps", results(impl.MaxLeaps), 12)
}

// On 3 by 3 cells without the middle the knight has one round of eight cells.
func TestRoundOfEight(t *testing.T) {
	b := holed(3, 3, 4)
	wants(t, "DistancesFrom", results(impl.DistancesFrom(b, knight, 0)), []int{0, 3, 2, 3, -1, 1, 2, 1, 4}, true)
	wants(t, "CountByDistance", results(impl.CountByDistance(b, knight, 0)), []int{1, 2, 2, 2, 1}, true)
	wants(t, "CellsWithin 2", results(impl.CellsWithin(b, knight, 0, 2)), []int{0, 2, 5, 6, 7}, true)
	wants(t, "FarthestFrom a1", results(impl.FarthestFrom(b, knight, 0)), 8, 4, true)
	wants(t, "IsWhole", results(impl.IsWhole(b, knight)), true, true)
	wants(t, "WidthOf", results(impl.WidthOf(b, knight)), 4, true)
	wants(t, "MiddlesOf", results(impl.MiddlesOf(b, knight)), []int{0, 1, 2, 3, 5, 6, 7, 8}, true)
	wants(t, "ShortestRound", results(impl.ShortestRound(b, knight)), []int{0, 5, 6, 1, 8, 3, 2, 7}, true)
	wants(t, "CountPaths back", results(impl.CountPaths(b, knight, 0, 0, 8)), 72, true)
}

// The leaper 0, 1 goes from cell to cell of a row, so that all of this can be counted at sight.
func TestOneRow(t *testing.T) {
	b, l := plain(8, 1), impl.Leaper{A: 0, B: 1}
	wants(t, "DistancesFrom", results(impl.DistancesFrom(b, l, 2)), []int{2, 1, 0, 1, 2, 3, 4, 5}, true)
	wants(t, "CountByDistance", results(impl.CountByDistance(b, l, 2)), []int{1, 2, 2, 1, 1, 1}, true)
	wants(t, "FirstRoute", results(impl.FirstRoute(b, l, 6, 3)), []int{6, 5, 4, 3}, true)
	wants(t, "CellsOnRoutes", results(impl.CellsOnRoutes(b, l, 6, 3)), []int{3, 4, 5, 6}, true)
	wants(t, "FarthestFrom", results(impl.FarthestFrom(b, l, 5)), 0, 5, true)
	wants(t, "WidthOf", results(impl.WidthOf(b, l)), 7, true)
	wants(t, "MiddlesOf of an even number", results(impl.MiddlesOf(b, l)), []int{3, 4}, true)
	wants(t, "MiddlesOf of an odd number", results(impl.MiddlesOf(plain(7, 1), l)), []int{3}, true)
	wants(t, "FarthestFrom the middle", results(impl.FarthestFrom(plain(7, 1), l, 3)), 0, 3, true)
	wants(t, "ShortestRound", results(impl.ShortestRound(b, l)), []int(nil), false)
	wants(t, "ShortestRound of two rows", results(impl.ShortestRound(plain(2, 2), l)), []int{0, 1, 3, 2}, true)
}

func TestBoardsOfOneCell(t *testing.T) {
	for _, b := range []impl.Board{plain(1, 1), onlyCell(3, 2, 5), onlyCell(8, 8, 0), onlyCell(8, 8, 63)} {
		cell := there(b)[0]
		distances := slices.Repeat([]int{-1}, b.Wide*b.High)
		distances[cell] = 0
		for _, l := range allLeapers() {
			wants(t, "DistanceBetween", results(impl.DistanceBetween(b, l, cell, cell)), 0, true)
			wants(t, "DistancesFrom", results(impl.DistancesFrom(b, l, cell)), distances, true)
			wants(t, "PartsOfBoard", results(impl.PartsOfBoard(b, l)), [][]int{{cell}}, true)
			wants(t, "IsWhole", results(impl.IsWhole(b, l)), true, true)
			wants(t, "WidthOf", results(impl.WidthOf(b, l)), 0, true)
			wants(t, "MiddlesOf", results(impl.MiddlesOf(b, l)), []int{cell}, true)
			wants(t, "ShortestRound", results(impl.ShortestRound(b, l)), []int(nil), false)
			isLonely(t, b, l, cell)
		}
	}
}

// isLonely asks all that is told of a cell without leaps.
func isLonely(t *testing.T, b impl.Board, l impl.Leaper, cell int) {
	t.Helper()
	wants(t, "FirstRoute to itself", results(impl.FirstRoute(b, l, cell, cell)), []int{cell}, true)
	wants(t, "CountRoutes to itself", results(impl.CountRoutes(b, l, cell, cell)), 1, true)
	wants(t, "CellsOnRoutes to itself", results(impl.CellsOnRoutes(b, l, cell, cell)), []int{cell}, true)
	wants(t, "CountByDistance", results(impl.CountByDistance(b, l, cell)), []int{1}, true)
	wants(t, "FarthestFrom", results(impl.FarthestFrom(b, l, cell)), cell, 0, true)
	wants(t, "IsRoute of it", results(impl.IsRoute(b, l, []int{cell})), true, true)
	wants(t, "IsRoute of it twice", results(impl.IsRoute(b, l, []int{cell, cell})), false, true)
	for leaps := range 13 {
		paths := 0
		if leaps == 0 {
			paths = 1
		}
		wants(t, named("CountPaths", leaps), results(impl.CountPaths(b, l, cell, cell, leaps)), paths, true)
		wants(t, named("CellsWithin", leaps), results(impl.CellsWithin(b, l, cell, leaps)), []int{cell}, true)
	}
}

func TestCellsWithoutAPath(t *testing.T) {
	b := plain(3, 3)
	isLonely(t, b, knight, 4)
	for _, cell := range []int{0, 1, 2, 3, 5, 6, 7, 8} {
		for _, pair := range [][2]int{{4, cell}, {cell, 4}} {
			from, to := pair[0], pair[1]
			wants(t, named("DistanceBetween", from, to), results(impl.DistanceBetween(b, knight, from, to)), 0, false)
			wants(t, named("FirstRoute", from, to), results(impl.FirstRoute(b, knight, from, to)), []int(nil), false)
			wants(t, named("CountRoutes", from, to), results(impl.CountRoutes(b, knight, from, to)), 0, true)
			wants(t, named("CellsOnRoutes", from, to), results(impl.CellsOnRoutes(b, knight, from, to)), []int(nil), true)
			wants(t, named("IsRoute", from, to), results(impl.IsRoute(b, knight, []int{from, to})), false, true)
			for leaps := range 13 {
				wants(t, named("CountPaths", from, to, leaps), results(impl.CountPaths(b, knight, from, to, leaps)), 0, true)
			}
		}
	}
	wants(t, "DistancesFrom the middle", results(impl.DistancesFrom(b, knight, 4)), []int{-1, -1, -1, -1, 0, -1, -1, -1, -1}, true)
	wants(t, "FarthestFrom b1", results(impl.FarthestFrom(b, knight, 1)), 7, 4, true)
}

func TestBoardsThatAreNotWhole(t *testing.T) {
	for _, b := range []impl.Board{plain(3, 3), plain(2, 1), plain(8, 2), holed(3, 3, 0, 4, 8), holed(8, 8, 1, 10, 17)} {
		wants(t, "IsWhole", results(impl.IsWhole(b, knight)), false, true)
		wants(t, "WidthOf", results(impl.WidthOf(b, knight)), 0, false)
		wants(t, "MiddlesOf", results(impl.MiddlesOf(b, knight)), []int(nil), false)
	}
	parts := [][]int{{0, 2, 8, 10}, {1, 3, 9, 11}, {4, 6, 12, 14}, {5, 7, 13, 15}}
	wants(t, "PartsOfBoard", results(impl.PartsOfBoard(plain(4, 4), impl.Leaper{A: 0, B: 2})), parts, true)
	wants(t, "ShortestRound of parts", results(impl.ShortestRound(plain(4, 4), impl.Leaper{A: 0, B: 2})), []int{0, 2, 10, 8}, true)
}

func TestShortestRound(t *testing.T) {
	cases := []struct {
		what  string
		board impl.Board
		l     impl.Leaper
		round []int
	}{
		{"the knight", plain(8, 8), knight, []int{0, 10, 27, 17}},
		{"a round that begins behind others", holed(8, 8, 0), knight, []int{1, 11, 26, 16}},
		{"three rows", plain(4, 3), knight, []int{0, 6, 8, 1, 7, 9}},
		{"a board without holes and rounds", plain(3, 2), knight, nil},
		{"a leap there and back", plain(2, 1), impl.Leaper{A: 0, B: 1}, nil},
		{"leaps that part at a cell", holed(3, 3, 0, 2, 6, 8), impl.Leaper{A: 0, B: 1}, nil},
		{"a round around a hole", holed(3, 3, 4), impl.Leaper{A: 0, B: 1}, []int{0, 1, 2, 5, 8, 7, 6, 3}},
		{"a later round that is shorter", holed(5, 3, 6), impl.Leaper{A: 0, B: 1}, []int{2, 3, 8, 7}},
		{"one corner less", holed(3, 3, 1), impl.Leaper{A: 0, B: 1}, []int{3, 4, 7, 6}},
		{"aslant", plain(3, 3), impl.Leaper{A: 1, B: 1}, []int{1, 3, 7, 5}},
		{"far leaps", plain(8, 8), impl.Leaper{A: 5, B: 5}, nil},
	}
	for _, c := range cases {
		wants(t, "ShortestRound of "+c.what, results(impl.ShortestRound(c.board, c.l)), c.round, c.round != nil)
	}
}

func TestIsRoute(t *testing.T) {
	b := plain(4, 4)
	cases := []struct {
		what string
		path []int
		is   bool
	}{
		{"no cell", nil, false},
		{"an empty list", []int{}, false},
		{"one cell", []int{15}, true},
		{"one leap", []int{0, 6}, true},
		{"two leaps", []int{0, 6, 15}, true},
		{"there and back", []int{0, 6, 0}, false},
		{"a round", []int{0, 6, 15, 9, 0}, false},
		{"a detour by four leaps", []int{0, 9, 2, 4, 6}, false},
		{"no leap", []int{0, 1}, false},
		{"the same cell twice at once", []int{5, 5}, false},
		{"as few steps that are no leaps", []int{0, 5, 15}, false},
	}
	for _, c := range cases {
		wants(t, "IsRoute of "+c.what, results(impl.IsRoute(b, knight, c.path)), c.is, true)
	}
	wants(t, "IsRoute with a hole", results(impl.IsRoute(holed(4, 4, 6), knight, []int{0, 6, 15})), false, true)
	wants(t, "IsRoute around a hole", results(impl.IsRoute(holed(4, 4, 6), knight, []int{0, 9, 15})), true, true)
}

// A hole makes the way longer: what was a detour is then a route.
func TestRoutesAroundHoles(t *testing.T) {
	l := impl.Leaper{A: 0, B: 1}
	wants(t, "DistanceBetween", results(impl.DistanceBetween(plain(3, 3), l, 0, 2)), 2, true)
	wants(t, "DistanceBetween", results(impl.DistanceBetween(holed(3, 3, 1), l, 0, 2)), 4, true)
	wants(t, "DistanceBetween", results(impl.DistanceBetween(holed(3, 3, 1, 4), l, 0, 2)), 6, true)
	wants(t, "DistanceBetween", results(impl.DistanceBetween(holed(3, 3, 1, 4, 7), l, 0, 2)), 0, false)
	wants(t, "FirstRoute", results(impl.FirstRoute(holed(3, 3, 1, 4), l, 2, 0)), []int{2, 5, 8, 7, 6, 3, 0}, true)
	wants(t, "IsRoute", results(impl.IsRoute(plain(3, 3), l, []int{0, 3, 4, 5, 2})), false, true)
	wants(t, "IsRoute", results(impl.IsRoute(holed(3, 3, 1), l, []int{0, 3, 4, 5, 2})), true, true)
	// Each second row has just one cell, at the right and at the left by turns: all 36 cells are one way.
	snake := plain(8, 8)
	for y := 1; y < 8; y += 2 {
		for x := range 8 {
			if x != 7*(y/2%2) {
				snake.Holes = append(snake.Holes, y*8+x)
			}
		}
	}
	wants(t, "WidthOf a snake", results(impl.WidthOf(snake, l)), 35, true)
	wants(t, "IsWhole of a snake", results(impl.IsWhole(snake, l)), true, true)
}

func TestCountRoutes(t *testing.T) {
	l := impl.Leaper{A: 0, B: 1}
	wants(t, "CountRoutes from corner to corner", results(impl.CountRoutes(plain(8, 8), l, 0, 63)), 3432, true)
	wants(t, "CountRoutes with a cell that is not there", results(impl.CountRoutes(holed(8, 8, 1), l, 0, 63)), 1716, true)
	wants(t, "CountRoutes by the knight", results(impl.CountRoutes(plain(8, 8), knight, 0, 63)), 108, true)
	wants(t, "DistanceBetween by the knight", results(impl.DistanceBetween(plain(8, 8), knight, 0, 63)), 6, true)
}

func TestCountPaths(t *testing.T) {
	row, l := plain(3, 1), impl.Leaper{A: 0, B: 1}
	for _, c := range [][4]int{{0, 0, 0, 1}, {0, 1, 0, 0}, {0, 1, 1, 1}, {0, 0, 1, 0}, {0, 0, 2, 1}, {1, 1, 2, 2}, {0, 2, 2, 1}, {1, 1, 12, 64}, {0, 2, 12, 32}, {0, 1, 12, 0}, {0, 1, 11, 32}} {
		wants(t, named("CountPaths", c[0], c[1], c[2]), results(impl.CountPaths(row, l, c[0], c[1], c[2])), c[3], true)
	}
}
