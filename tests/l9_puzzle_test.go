package tests

import (
	"slices"
	"strings"
	"testing"

	"loop.example/g01239/impl"
)

func TestPuzzleExample(t *testing.T) {
	p, ok := impl.ParsePuzzle("1,2:1,.,./.,#,2/.,.,.")
	wants(t, "ParsePuzzle", results(p, ok), ringPuzzle(), true)
	wants(t, "IsPuzzle", results(impl.IsPuzzle(p)), true)
	wants(t, "GapsOf", results(impl.GapsOf(p)), 6, true)
	wants(t, "Solutions", results(impl.Solutions(p)), [][]int{ring}, true)
	wants(t, "CountSolutions", results(impl.CountSolutions(p)), 1, true)
	wants(t, "FirstSolution", results(impl.FirstSolution(p)), ring, true)
	wants(t, "IsSolution", results(impl.IsSolution(p, ring)), true, true)
	wants(t, "SureNumbers", results(impl.SureNumbers(p)), []int{1, 4, 7, 6, 0, 2, 3, 8, 5}, true)
	wants(t, "HintOf", results(impl.HintOf(p)), 1, 4, true)
	wants(t, "PuzzleText", results(impl.PuzzleText(p)), "1,2:1,.,./.,#,2/.,.,.", true)
	wants(t, "HarderPuzzle", results(impl.HarderPuzzle(p)), p, true) // one number alone tells no direction
}

// mirrored200 is the puzzle solutions200 on the mirrored board.
func mirrored200() impl.Puzzle {
	return puzzleOf(impl.Leaper{A: 1, B: 3},
		"# # # . # # # #",
		". # . # . # . #",
		"# . # 2 # . # #",
		"# # . # . # # #",
		"# . # . # . # #",
		". # . # # # # #",
		"# # # . # # # #",
		"# # # # # # # #")
}

// isFull tells that all numbers of a puzzle are shown, and that its tour is a solution.
func isFull(t *testing.T, p impl.Puzzle, tour []int) {
	t.Helper()
	wants(t, "IsPuzzle", results(impl.IsPuzzle(p)), true)
	wants(t, "GapsOf", results(impl.GapsOf(p)), 0, true)
	wants(t, "Solutions", results(impl.Solutions(p)), [][]int{tour}, true)
	wants(t, "CountSolutions", results(impl.CountSolutions(p)), 1, true)
	wants(t, "FirstSolution", results(impl.FirstSolution(p)), tour, true)
	wants(t, "IsSolution", results(impl.IsSolution(p, tour)), true, true)
	wants(t, "IsSolution backwards", results(impl.IsSolution(p, backwards(tour))), len(tour) == 1, true)
	wants(t, "SureNumbers", results(impl.SureNumbers(p)), p.Numbers, true)
	wants(t, "HintOf", results(impl.HintOf(p)), 0, 0, false)
	wants(t, "MakePuzzle", results(impl.MakePuzzle(p.Board, p.Leaper, tour, 1)), p, true)
	for cell, number := range p.Numbers {
		hidden := numbered(p, cell, 0)
		if number == 0 {
			hidden = impl.Puzzle{}
		}
		wants(t, named("HideNumber", cell), results(impl.HideNumber(p, cell)), hidden, number > 0)
		wants(t, named("ShowNumber", cell), results(impl.ShowNumber(p, cell, 1)), impl.Puzzle{}, false)
		if number > 0 {
			wants(t, named("ShowNumber", cell, number), results(impl.ShowNumber(hidden, cell, number)), p, true)
		}
	}
}

func TestPuzzlesWithoutGaps(t *testing.T) {
	isFull(t, puzzleOf(knight, "1 4 7", "6 # 2", "3 8 5"), ring)
	isFull(t, puzzleOf(knight, "8 5 2", "3 # 7", "6 1 4"), backwards(ring))
	isFull(t, puzzleOf(single, "1 2", "4 3"), []int{0, 1, 3, 2})
	isFull(t, puzzleOf(single, "16 15 14 13", "9 10 11 12", "8 7 6 5", "1 2 3 4"), []int{12, 13, 14, 15, 11, 10, 9, 8, 4, 5, 6, 7, 3, 2, 1, 0})
	isFull(t, puzzleOf(double, "2 # 1", "# # #", "3 # 4"), []int{2, 0, 6, 8})
	isFull(t, puzzleOf(knight, "1"), []int{0})
	tour, _ := impl.FirstTour(plain(4, 3), knight)
	numbers, _ := impl.NumbersOfWalk(plain(4, 3), knight, tour)
	isFull(t, impl.Puzzle{Board: plain(4, 3), Leaper: knight, Numbers: numbers}, tour)
	wants(t, "CountSolutions of no tour", results(impl.CountSolutions(puzzleOf(knight, "1 2", "4 3"))), 0, true)
}

// A puzzle with gaps only has all tours as solutions.
func TestPuzzlesWithGapsOnly(t *testing.T) {
	p := blank(holed(3, 3, 4), knight)
	solutions := spins(ring)
	slices.SortFunc(solutions, slices.Compare)
	wants(t, "GapsOf", results(impl.GapsOf(p)), 8, true)
	wants(t, "Solutions", results(impl.Solutions(p)), solutions, true)
	wants(t, "CountSolutions", results(impl.CountSolutions(p)), 16, true)
	wants(t, "FirstSolution", results(impl.FirstSolution(p)), ring, true)
	wants(t, "SureNumbers", results(impl.SureNumbers(p)), make([]int, 9), true)
	wants(t, "HintOf", results(impl.HintOf(p)), 0, 0, false)
	wants(t, "HarderPuzzle", results(impl.HarderPuzzle(p)), impl.Puzzle{}, false)
	wants(t, "BackPuzzle", results(impl.BackPuzzle(p)), p, true)
	wants(t, "MirrorPuzzle", results(impl.MirrorPuzzle(p)), p, true)
	wants(t, "PuzzleText", results(impl.PuzzleText(p)), "1,2:.,.,./.,#,./.,.,.", true)
	for _, tour := range solutions {
		wants(t, "IsSolution", results(impl.IsSolution(p, tour)), true, true)
	}
	wants(t, "CountSolutions of 4 by 3 cells", results(impl.CountSolutions(blank(plain(4, 3), knight))), 16, true)
	wants(t, "Solutions of a row", results(impl.Solutions(blank(plain(3, 1), single))), [][]int{{0, 1, 2}, {2, 1, 0}}, true)
	wants(t, "SureNumbers of a row", results(impl.SureNumbers(blank(plain(3, 1), single))), []int{0, 2, 0}, true)
	wants(t, "HintOf a row", results(impl.HintOf(blank(plain(3, 1), single))), 1, 2, true)
}

func TestPuzzlesOfOneCell(t *testing.T) {
	for _, b := range []impl.Board{plain(1, 1), onlyCell(3, 2, 5), onlyCell(8, 8, 0), onlyCell(8, 8, 63)} {
		for _, l := range allLeapers() {
			cell := there(b)[0]
			p, full := blank(b, l), numbered(blank(b, l), cell, 1)
			isFull(t, full, []int{cell})
			wants(t, "GapsOf", results(impl.GapsOf(p)), 1, true)
			wants(t, "Solutions", results(impl.Solutions(p)), [][]int{{cell}}, true)
			wants(t, "CountSolutions", results(impl.CountSolutions(p)), 1, true)
			wants(t, "SureNumbers", results(impl.SureNumbers(p)), full.Numbers, true)
			wants(t, "HintOf", results(impl.HintOf(p)), cell, 1, true)
			wants(t, "HarderPuzzle", results(impl.HarderPuzzle(p)), p, true)
			wants(t, "HarderPuzzle of the number", results(impl.HarderPuzzle(full)), p, true)
			wants(t, "ShowNumber", results(impl.ShowNumber(p, cell, 1)), full, true)
			wants(t, "ShowNumber of no place", results(impl.ShowNumber(p, cell, 2)), impl.Puzzle{}, false)
			wants(t, "MakePuzzle", results(impl.MakePuzzle(b, l, []int{cell}, 20)), full, true)
			wants(t, "BackPuzzle", results(impl.BackPuzzle(full)), full, true)
		}
	}
	wants(t, "MirrorPuzzle", results(impl.MirrorPuzzle(puzzleOf(knight, "# # #", "1 # #"))), puzzleOf(knight, "# # #", "# # 1"), true)
	wants(t, "PuzzleText", results(impl.PuzzleText(puzzleOf(knight, "# # #", "1 # #"))), "1,2:#,#,#/1,#,#", true)
	wants(t, "PuzzleText of the only cell", results(impl.PuzzleText(blank(plain(1, 1), double))), "0,2:.", true)
	wants(t, "ParsePuzzle of the only cell", results(impl.ParsePuzzle("4,5:1")), puzzleOf(impl.Leaper{A: 4, B: 5}, "1"), true)
}

func TestPuzzlesWithoutSolutions(t *testing.T) {
	for _, p := range unsolved() {
		wants(t, "IsPuzzle", results(impl.IsPuzzle(p)), true)
		wants(t, "Solutions", results(impl.Solutions(p)), [][]int(nil), true)
		wants(t, "CountSolutions", results(impl.CountSolutions(p)), 0, true)
		wants(t, "FirstSolution", results(impl.FirstSolution(p)), []int(nil), false)
		wants(t, "SureNumbers", results(impl.SureNumbers(p)), []int(nil), false)
		wants(t, "HintOf", results(impl.HintOf(p)), 0, 0, false)
		wants(t, "HarderPuzzle", results(impl.HarderPuzzle(p)), impl.Puzzle{}, false)
		wants(t, "IsSolution", results(impl.IsSolution(p, ring)), false, true)
		text, ok := impl.PuzzleText(p)
		wants(t, "PuzzleText", results(ok), true)
		wants(t, "ParsePuzzle", results(impl.ParsePuzzle(text)), p, true)
	}
}

func TestPuzzlesWithSeveralSolutions(t *testing.T) {
	cases := []struct {
		what      string
		puzzle    impl.Puzzle
		solutions [][]int
		sure      []int
		cell      int // of the hint
		number    int // 0 if there is none
	}{
		{"two directions", puzzleOf(knight, "1 . .", ". # .", ". . ."), [][]int{ring, {0, 7, 2, 3, 8, 1, 6, 5}}, []int{1, 0, 0, 0, 0, 0, 0, 0, 5}, 8, 5},
		{"two directions from another cell", puzzleOf(knight, ". . .", ". # .", "2 . ."), [][]int{{1, 6, 5, 0, 7, 2, 3, 8}, {5, 6, 1, 8, 3, 2, 7, 0}}, []int{0, 0, 6, 0, 0, 0, 2, 0, 0}, 2, 6},
		{"without a hint, as all that is sure is shown", puzzleOf(knight, "1 . .", ". # .", ". . 5"), [][]int{ring, {0, 7, 2, 3, 8, 1, 6, 5}}, []int{1, 0, 0, 0, 0, 0, 0, 0, 5}, 0, 0},
		{"with a number behind the gaps", puzzleOf(single, ". 1", ". ."), [][]int{{1, 0, 2, 3}, {1, 3, 2, 0}}, []int{0, 1, 3, 0}, 2, 3},
		{"the last place", puzzleOf(single, ". .", "4 ."), [][]int{{0, 1, 3, 2}, {3, 1, 0, 2}}, []int{0, 2, 4, 0}, 1, 2},
		{"around a hole", puzzleOf(single, ". 1 .", ". # .", ". . ."), [][]int{{1, 0, 3, 6, 7, 8, 5, 2}, {1, 2, 5, 8, 7, 6, 3, 0}}, []int{0, 1, 0, 0, 0, 0, 0, 5, 0}, 7, 5},
	}
	for _, c := range cases {
		wants(t, "Solutions of "+c.what, results(impl.Solutions(c.puzzle)), c.solutions, true)
		wants(t, "CountSolutions of "+c.what, results(impl.CountSolutions(c.puzzle)), len(c.solutions), true)
		wants(t, "FirstSolution of "+c.what, results(impl.FirstSolution(c.puzzle)), c.solutions[0], true)
		wants(t, "SureNumbers of "+c.what, results(impl.SureNumbers(c.puzzle)), c.sure, true)
		wants(t, "HintOf "+c.what, results(impl.HintOf(c.puzzle)), c.cell, c.number, c.number > 0)
		wants(t, "HarderPuzzle of "+c.what, results(impl.HarderPuzzle(c.puzzle)), impl.Puzzle{}, false)
	}
}

// A puzzle may have 200 solutions; with more, what looks for them fails, and all else does not.
func TestMostSolutions(t *testing.T) {
	p := solutions200()
	solutions, ok := impl.Solutions(p)
	wants(t, "Solutions", results(len(solutions), ok), 200, true)
	wants(t, "CountSolutions", results(impl.CountSolutions(p)), 200, true)
	wants(t, "FirstSolution", results(impl.FirstSolution(p)), solutions[0], true)
	_, ok = impl.SureNumbers(p)
	wants(t, "SureNumbers", results(ok), true)
	for i, solution := range solutions {
		wants(t, "IsSolution", results(impl.IsSolution(p, solution)), true, true)
		if i > 0 && slices.Compare(solutions[i-1], solution) >= 0 {
			t.Error("not in order:", solutions[i-1], solution)
		}
	}
	for _, p := range []impl.Puzzle{solutions201(), blank(plain(4, 4), single), blank(plain(5, 3), single)} {
		wants(t, "Solutions", results(impl.Solutions(p)), [][]int(nil), false)
		wants(t, "CountSolutions", results(impl.CountSolutions(p)), 0, false)
		wants(t, "FirstSolution", results(impl.FirstSolution(p)), []int(nil), false)
		wants(t, "SureNumbers", results(impl.SureNumbers(p)), []int(nil), false)
		wants(t, "HintOf", results(impl.HintOf(p)), 0, 0, false)
		wants(t, "HarderPuzzle", results(impl.HarderPuzzle(p)), impl.Puzzle{}, false)
		wants(t, "IsPuzzle", results(impl.IsPuzzle(p)), true)
		wants(t, "GapsOf", results(impl.GapsOf(p)), len(there(p.Board))-len(onlyPositive(p.Numbers)), true)
		wants(t, "IsSolution", results(impl.IsSolution(p, ring)), false, true)
	}
	snake := []int{0, 1, 2, 3, 7, 6, 5, 4, 8, 9, 10, 11, 15, 14, 13, 12}
	wants(t, "IsSolution", results(impl.IsSolution(blank(plain(4, 4), single), snake)), true, true)
}

func onlyPositive(list []int) []int {
	return slices.DeleteFunc(slices.Clone(list), func(n int) bool { return n <= 0 })
}

func TestShownAndHiddenNumbers(t *testing.T) {
	p := ringPuzzle()
	wants(t, "ShowNumber", results(impl.ShowNumber(p, 1, 4)), puzzleOf(knight, "1 4 .", ". # 2", ". . ."), true)
	wants(t, "ShowNumber that no solution has", results(impl.ShowNumber(p, 1, 3)), puzzleOf(knight, "1 3 .", ". # 2", ". . ."), true)
	wants(t, "ShowNumber of the last place", results(impl.ShowNumber(p, 8, 8)), puzzleOf(knight, "1 . .", ". # 2", ". . 8"), true)
	wants(t, "HideNumber", results(impl.HideNumber(p, 5)), puzzleOf(knight, "1 . .", ". # .", ". . ."), true)
	wants(t, "HideNumber of the first cell", results(impl.HideNumber(p, 0)), puzzleOf(knight, ". . .", ". # 2", ". . ."), true)
	for n := -1; n <= 10; n++ {
		for cell := -1; cell <= 9; cell++ {
			isGap := cell >= 0 && cell < 9 && cell != 0 && cell != 4 && cell != 5
			fits := isGap && n >= 3 && n <= 8
			shown := impl.Puzzle{}
			if fits {
				shown = numbered(p, cell, n)
			}
			wants(t, named("ShowNumber", cell, n), results(impl.ShowNumber(p, cell, n)), shown, fits)
			_, ok := impl.HideNumber(p, cell)
			wants(t, named("HideNumber", cell), results(ok), cell == 0 || cell == 5)
		}
	}
}

func TestHarderPuzzles(t *testing.T) {
	row := puzzleOf(single, "1 2 3 4 5")
	odd := puzzleOf(single, "1 2 3", "6 5 4", "7 8 9")
	cases := []struct {
		what   string
		puzzle impl.Puzzle
		harder impl.Puzzle
	}{
		{"all numbers of a round", puzzleOf(knight, "1 4 7", "6 # 2", "3 8 5"), puzzleOf(knight, ". . .", ". # .", ". 8 5")},
		{"numbers of a round", puzzleOf(knight, ". 4 .", "6 # .", ". . ."), puzzleOf(knight, ". 4 .", "6 # .", ". . .")},
		{"a round with a number that tells nothing", puzzleOf(knight, "1 4 .", ". # .", ". . 5"), puzzleOf(knight, ". 4 .", ". # .", ". . 5")},
		{"a row", row, puzzleOf(single, ". . . . 5")},
		{"a row with the middle behind", puzzleOf(single, ". 2 3 . ."), puzzleOf(single, ". 2 . . .")},
		{"a row backwards", puzzleOf(single, "5 4 3 2 1"), puzzleOf(single, ". . . . 1")},
		{"a column", puzzleOf(single, "1", "2", "3"), puzzleOf(single, ".", ".", "3")},
		{"a row with one number", puzzleOf(single, ". . . 4 ."), puzzleOf(single, ". . . 4 .")},
		{"nine cells", odd, puzzleOf(single, ". . .", ". . 4", ". . 9")},
	}
	for _, c := range cases {
		wants(t, "HarderPuzzle of "+c.what, results(impl.HarderPuzzle(c.puzzle)), c.harder, true)
		wants(t, "HarderPuzzle of that of "+c.what, results(impl.HarderPuzzle(c.harder)), c.harder, true)
	}
}

// A number is kept as well if without it there would be more than MaxSolutions.
func TestHarderPuzzlesNextToManySolutions(t *testing.T) {
	p := puzzleOf(impl.Leaper{A: 1, B: 3},
		"# # # # . # # #",
		"# . # # # . # .",
		"# # . # . # # #",
		"# . # . # . # #",
		". # . # # # . #",
		"# # # 15 # 13 # #",
		". # . # # # # #",
		"# # # # # # # #")
	_, few := impl.CountSolutions(numbered(p, 43, 0))
	_, fewer := impl.CountSolutions(numbered(p, 45, 0))
	wants(t, "whether just one of both has many solutions", results(few != fewer), true)
	wants(t, "CountSolutions", results(impl.CountSolutions(p)), 1, true)
	wants(t, "HarderPuzzle", results(impl.HarderPuzzle(p)), p, true)
	solution, _ := impl.FirstSolution(p)
	full, _ := impl.MakePuzzle(p.Board, p.Leaper, solution, 1)
	harder, ok := impl.HarderPuzzle(full)
	wants(t, "HarderPuzzle of all numbers", results(impl.Solutions(harder)), [][]int{solution}, ok)
}

func TestMadePuzzles(t *testing.T) {
	cases := []struct {
		every  int
		puzzle impl.Puzzle
	}{
		{1, puzzleOf(knight, "1 4 7", "6 # 2", "3 8 5")},
		{2, puzzleOf(knight, "1 . 7", ". # .", "3 . 5")},
		{3, puzzleOf(knight, "1 4 7", ". # .", ". . .")},
		{4, puzzleOf(knight, "1 . .", ". # .", ". . 5")},
		{5, puzzleOf(knight, "1 . .", "6 # .", ". . .")},
		{6, puzzleOf(knight, "1 . 7", ". # .", ". . .")},
		{7, puzzleOf(knight, "1 . .", ". # .", ". 8 .")},
		{8, puzzleOf(knight, "1 . .", ". # .", ". . .")},
		{20, puzzleOf(knight, "1 . .", ". # .", ". . .")},
	}
	for _, c := range cases {
		wants(t, named("MakePuzzle", c.every), results(impl.MakePuzzle(holed(3, 3, 4), knight, ring, c.every)), c.puzzle, true)
	}
	for _, list := range [][]int{nil, {}, {0}, ring[:7], {0, 5, 6, 1, 8, 3, 2, 5}, {0, 5, 6, 1, 8, 3, 2, 4}, {0, 1, 2, 3, 5, 6, 7, 8}, append(slices.Clone(ring), 0)} {
		wants(t, named("MakePuzzle of no tour", list...), results(impl.MakePuzzle(holed(3, 3, 4), knight, list, 2)), impl.Puzzle{}, false)
	}
}

func TestPuzzlesBackwardsAndMirrored(t *testing.T) {
	cases := []struct {
		puzzle   impl.Puzzle
		back     impl.Puzzle
		mirrored impl.Puzzle
	}{
		{ringPuzzle(), puzzleOf(knight, "8 . .", ". # 7", ". . ."), puzzleOf(knight, ". . 1", "2 # .", ". . .")},
		{puzzleOf(single, "1 . # #", "# 3 4 ."), puzzleOf(single, "5 . # #", "# 3 2 ."), puzzleOf(single, "# # . 1", ". 4 3 #")},
		{puzzleOf(single, "1", ".", "#"), puzzleOf(single, "2", ".", "#"), puzzleOf(single, "1", ".", "#")},
		{solutions200(), numbered(solutions200(), 20, 15), mirrored200()},
	}
	for _, c := range cases {
		wants(t, "BackPuzzle", results(impl.BackPuzzle(c.puzzle)), c.back, true)
		wants(t, "BackPuzzle back", results(impl.BackPuzzle(c.back)), c.puzzle, true)
		wants(t, "MirrorPuzzle", results(impl.MirrorPuzzle(c.puzzle)), c.mirrored, true)
		wants(t, "MirrorPuzzle back", results(impl.MirrorPuzzle(c.mirrored)), c.puzzle, true)
	}
}

func TestPuzzleTexts(t *testing.T) {
	many := strings.Repeat("#,", 7) + "#"
	cases := []struct {
		text   string
		puzzle impl.Puzzle
	}{
		{"0,1:.", puzzleOf(single, ".")},
		{"5,5:1", puzzleOf(impl.Leaper{A: 5, B: 5}, "1")},
		{"0,5:#,.", puzzleOf(impl.Leaper{A: 0, B: 5}, "# .")},
		{"0,2:#/.", puzzleOf(double, "#", ".")},
		{"1,2:2,#/#,1", puzzleOf(knight, "2 #", "# 1")},
		{"1,2:1,2/3,4", puzzleOf(knight, "1 2", "3 4")},
		{"1,2:.,.,.,.,.,.,.,./.,.,.,.,.,.,.,.", blank(plain(8, 2), knight)},
		{"1,2:1/./4/./.", puzzleOf(knight, "1", ".", "4", ".", ".")},
		{"0,1:16,15,14,13/9,10,11,12/8,7,6,5/1,2,3,4", puzzleOf(single, "16 15 14 13", "9 10 11 12", "8 7 6 5", "1 2 3 4")},
		{"1,2:" + strings.Repeat(many+"/", 7) + strings.Repeat("#,", 7) + "1", numbered(blank(onlyCell(8, 8, 63), knight), 63, 1)},
		{"1,2:1,2,3,4,5,6,7,8/9,10,11,12,13,14,15,16" + strings.Repeat("/"+many, 6), impl.Puzzle{Board: keeping(8, 8, 16), Leaper: knight, Numbers: append(up(1, 16), make([]int, 48)...)}},
	}
	for _, c := range cases {
		wants(t, "PuzzleText", results(impl.PuzzleText(c.puzzle)), c.text, true)
		wants(t, "ParsePuzzle of "+c.text, results(impl.ParsePuzzle(c.text)), c.puzzle, true)
	}
}
