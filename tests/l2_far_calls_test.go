package tests

import (
	"slices"
	"testing"

	"loop.example/g01239/impl"
)

var farCalls = []call{
	{"DistanceBetween", "blft", func(in input) []any { return results(impl.DistanceBetween(in.board, in.leaper, in.from, in.to)) }},
	{"FirstRoute", "blft", func(in input) []any { return results(impl.FirstRoute(in.board, in.leaper, in.from, in.to)) }},
	{"CountRoutes", "blft", func(in input) []any { return results(impl.CountRoutes(in.board, in.leaper, in.from, in.to)) }},
	{"CellsOnRoutes", "blft", func(in input) []any { return results(impl.CellsOnRoutes(in.board, in.leaper, in.from, in.to)) }},
	{"DistancesFrom", "blf", func(in input) []any { return results(impl.DistancesFrom(in.board, in.leaper, in.from)) }},
	{"CountByDistance", "blf", func(in input) []any { return results(impl.CountByDistance(in.board, in.leaper, in.from)) }},
	{"CellsWithin", "blfk", func(in input) []any { return results(impl.CellsWithin(in.board, in.leaper, in.from, in.leaps)) }},
	{"FarthestFrom", "blf", func(in input) []any { return results(impl.FarthestFrom(in.board, in.leaper, in.from)) }},
	{"PartsOfBoard", "bl", func(in input) []any { return results(impl.PartsOfBoard(in.board, in.leaper)) }},
	{"IsWhole", "bl", func(in input) []any { return results(impl.IsWhole(in.board, in.leaper)) }},
	{"WidthOf", "bl", func(in input) []any { return results(impl.WidthOf(in.board, in.leaper)) }},
	{"MiddlesOf", "bl", func(in input) []any { return results(impl.MiddlesOf(in.board, in.leaper)) }},
	{"CountPaths", "blftk", func(in input) []any {
		return results(impl.CountPaths(in.board, in.leaper, in.from, in.to, in.leaps))
	}},
	{"ShortestRound", "bl", func(in input) []any { return results(impl.ShortestRound(in.board, in.leaper)) }},
	{"IsRoute", "bl", func(in input) []any { return results(impl.IsRoute(in.board, in.leaper, in.path)) }},
}

func TestNumbersOfAnySizeAreInNoRoute(t *testing.T) {
	b := holed(4, 3, 1, 6, 7)
	for _, n := range append([]int{1, 6, 7, 12}, extremes...) {
		wants(t, named("IsRoute", n), results(impl.IsRoute(b, knight, []int{n})), false, true)
		wants(t, named("IsRoute 0", n), results(impl.IsRoute(b, knight, []int{0, n})), false, true)
		wants(t, named("IsRoute 0 to 2", n), results(impl.IsRoute(b, knight, []int{0, n, 2})), false, true)
		wants(t, named("IsRoute 9 behind", n), results(impl.IsRoute(b, knight, []int{n, 9})), false, true)
	}
}

// Each call is wrong in one argument only, also where another one is at a limit or the result would be none.
func TestWhatDistancesRequire(t *testing.T) {
	b := holed(3, 3, 1)
	for _, cell := range append([]int{1, 9, 10}, extremes...) {
		wants(t, named("DistanceBetween the same", cell), results(impl.DistanceBetween(b, knight, cell, cell)), 0, false)
		wants(t, named("FirstRoute the same", cell), results(impl.FirstRoute(b, knight, cell, cell)), []int(nil), false)
		wants(t, named("CountRoutes the same", cell), results(impl.CountRoutes(b, knight, cell, cell)), 0, false)
		wants(t, named("CountPaths the same", cell), results(impl.CountPaths(b, knight, cell, cell, 0)), 0, false)
		wants(t, named("CountPaths the middle", cell), results(impl.CountPaths(b, knight, 4, cell, 0)), 0, false)
		wants(t, named("CountRoutes the middle", cell), results(impl.CountRoutes(b, knight, 4, cell)), 0, false)
		wants(t, named("CellsOnRoutes the middle", cell), results(impl.CellsOnRoutes(b, knight, 4, cell)), []int(nil), false)
		wants(t, named("CellsWithin", cell), results(impl.CellsWithin(b, knight, cell, 0)), []int(nil), false)
	}
	for _, leaps := range append([]int{13}, extremes...) {
		wants(t, named("CountPaths the middle", leaps), results(impl.CountPaths(b, knight, 4, 0, leaps)), 0, false)
		wants(t, named("CellsWithin the middle", leaps), results(impl.CellsWithin(b, knight, 4, leaps)), []int(nil), false)
	}
	for _, leaps := range []int{0, 12} {
		wants(t, named("CountPaths", leaps), results(impl.CountPaths(b, knight, 4, 0, leaps)), 0, true)
		wants(t, named("CellsWithin", leaps), results(impl.CellsWithin(b, knight, 4, leaps)), []int{4}, true)
	}
}

// A list of 64 cells may be a path, one of 65 none; neither is a route, as cells come again.
func TestLongListsAreNoRoutes(t *testing.T) {
	for _, n := range []int{3, 63, 64, 65, 66, 1000} {
		list := slices.Repeat([]int{0, 5}, n)[:n]
		wants(t, named("IsRoute of so many cells", n), results(impl.IsRoute(plain(3, 3), knight, list)), false, true)
	}
}
