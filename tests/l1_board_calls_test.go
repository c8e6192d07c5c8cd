package tests

import (
	"testing"

	"loop.example/g01239/impl"
)

var boardCalls = []call{
	{"IsLeaper", "", func(in input) []any { return results(impl.IsLeaper(in.leaper)) }},
	{"IsBoard", "", func(in input) []any { return results(impl.IsBoard(in.board)) }},
	{"PlainBoard", "wh", func(in input) []any { return results(impl.PlainBoard(in.wide, in.high)) }},
	{"CellsOf", "b", func(in input) []any { return results(impl.CellsOf(in.board)) }},
	{"CountCells", "b", func(in input) []any { return results(impl.CountCells(in.board)) }},
	{"HasCell", "b", func(in input) []any { return results(impl.HasCell(in.board, in.from)) }},
	{"NameOf", "bf", func(in input) []any { return results(impl.NameOf(in.board, in.from)) }},
	{"CellOfName", "bn", func(in input) []any { return results(impl.CellOfName(in.board, in.name)) }},
	{"StepsOf", "l", func(in input) []any { return results(impl.StepsOf(in.leaper)) }},
	{"LeapsFrom", "blf", func(in input) []any { return results(impl.LeapsFrom(in.board, in.leaper, in.from)) }},
	{"IsLeap", "blft", func(in input) []any { return results(impl.IsLeap(in.board, in.leaper, in.from, in.to)) }},
	{"CountLeaps", "bl", func(in input) []any { return results(impl.CountLeaps(in.board, in.leaper)) }},
	{"CountPlainLeaps", "whl", func(in input) []any { return results(impl.CountPlainLeaps(in.wide, in.high, in.leaper)) }},
	{"DegreesOf", "bl", func(in input) []any { return results(impl.DegreesOf(in.board, in.leaper)) }},
	{"TurnBoard", "b", func(in input) []any { return results(impl.TurnBoard(in.board)) }},
	{"TurnCell", "bf", func(in input) []any { return results(impl.TurnCell(in.board, in.from)) }},
	{"MirrorBoard", "b", func(in input) []any { return results(impl.MirrorBoard(in.board)) }},
	{"MirrorCell", "bf", func(in input) []any { return results(impl.MirrorCell(in.board, in.from)) }},
	{"IsPath", "bl", func(in input) []any { return results(impl.IsPath(in.board, in.leaper, in.path)) }},
	{"PathText", "bp", func(in input) []any { return results(impl.PathText(in.board, in.path)) }},
	{"ParsePath", "bs", func(in input) []any { return results(impl.ParsePath(in.board, in.text)) }},
}

func TestInvalidBoardsAndLeapers(t *testing.T) {
	for _, b := range badBoards() {
		if impl.IsBoard(b) {
			t.Error("IsBoard admits", b)
		}
	}
	for _, l := range badLeapers() {
		if impl.IsLeaper(l) {
			t.Error("IsLeaper admits", l)
		}
	}
}

func TestNumbersOfAnySizeAreNoCells(t *testing.T) {
	b := holed(4, 3, 1, 6, 7)
	for _, n := range extremes {
		wants(t, named("HasCell", n), results(impl.HasCell(b, n)), false, true)
		wants(t, named("IsPath", n), results(impl.IsPath(b, knight, []int{n})), false, true)
		wants(t, named("IsPath 0", n), results(impl.IsPath(b, knight, []int{0, n})), false, true)
	}
}
