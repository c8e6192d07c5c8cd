package tests

import (
	"slices"
	"strconv"
	"strings"
	"testing"

	"loop.example/g01239/impl"
)

var puzzleCalls = []call{
	{"IsPuzzle", "1", func(in input) []any { return results(impl.IsPuzzle(in.puzzle)) }},
	{"GapsOf", "1", func(in input) []any { return results(impl.GapsOf(in.puzzle)) }},
	{"IsSolution", "1", func(in input) []any { return results(impl.IsSolution(in.puzzle, in.path)) }},
	{"Solutions", "16", func(in input) []any { return results(impl.Solutions(in.puzzle)) }},
	{"CountSolutions", "16", func(in input) []any { return results(impl.CountSolutions(in.puzzle)) }},
	{"FirstSolution", "165", func(in input) []any { return results(impl.FirstSolution(in.puzzle)) }},
	{"SureNumbers", "165", func(in input) []any { return results(impl.SureNumbers(in.puzzle)) }},
	{"HintOf", "1658", func(in input) []any { return results(impl.HintOf(in.puzzle)) }},
	{"ShowNumber", "123", func(in input) []any { return results(impl.ShowNumber(in.puzzle, in.gap, in.number)) }},
	{"HideNumber", "14", func(in input) []any { return results(impl.HideNumber(in.puzzle, in.known)) }},
	{"HarderPuzzle", "1657", func(in input) []any { return results(impl.HarderPuzzle(in.puzzle)) }},
	{"MakePuzzle", "blpac9", func(in input) []any { return results(impl.MakePuzzle(in.board, in.leaper, in.path, in.rate)) }},
	{"BackPuzzle", "1", func(in input) []any { return results(impl.BackPuzzle(in.puzzle)) }},
	{"MirrorPuzzle", "1", func(in input) []any { return results(impl.MirrorPuzzle(in.puzzle)) }},
	{"PuzzleText", "1", func(in input) []any { return results(impl.PuzzleText(in.puzzle)) }},
	{"ParsePuzzle", "0", func(in input) []any { return results(impl.ParsePuzzle(in.told)) }},
}

// puzzleOf is the puzzle with such rows from below, with blanks between cells.
func puzzleOf(l impl.Leaper, rows ...string) impl.Puzzle {
	p := impl.Puzzle{Leaper: l}
	for _, row := range rows {
		cells := strings.Fields(row)
		p.Board.Wide = len(cells)
		p.Board.High++
		for _, cell := range cells {
			number, _ := strconv.Atoi(cell) // 0 for what is no number
			if cell == "#" {
				p.Board.Holes = append(p.Board.Holes, len(p.Numbers))
			}
			p.Numbers = append(p.Numbers, number)
		}
	}
	return p
}

// blank is the puzzle of a board and a leaper with gaps only.
func blank(b impl.Board, l impl.Leaper) impl.Puzzle {
	return impl.Puzzle{Board: b, Leaper: l, Numbers: make([]int, b.Wide*b.High)}
}

// numbered is the puzzle with another number in a cell.
func numbered(p impl.Puzzle, cell int, number int) impl.Puzzle {
	p.Numbers = slices.Clone(p.Numbers)
	p.Numbers[cell] = number
	return p
}

// copied shares no memory with a puzzle.
func copied(p impl.Puzzle) impl.Puzzle {
	p.Board.Holes, p.Numbers = slices.Clone(p.Board.Holes), slices.Clone(p.Numbers)
	return p
}

// ringPuzzle is the example: the cells 1, 2, 3, 6, 7 and 8 are gaps, and 4 is a hole.
func ringPuzzle() impl.Puzzle {
	return puzzleOf(knight, "1 . .", ". # 2", ". . .")
}

// solutions200 and solutions201 are puzzles with so many solutions: as many as may be, and one more.
func solutions200() impl.Puzzle {
	return puzzleOf(impl.Leaper{A: 1, B: 3},
		"# # # # . # # #",
		"# . # . # . # .",
		"# # . # 2 # . #",
		"# # # . # . # #",
		"# # . # . # . #",
		"# # # # # . # .",
		"# # # # . # # #",
		"# # # # # # # #")
}

func solutions201() impl.Puzzle {
	return puzzleOf(impl.Leaper{A: 1, B: 3},
		"# # # # 3 # # #",
		"# . # . # # # .",
		"# # # # . # . #",
		"# # # . # . # #",
		". # . # # # . #",
		"# # # . # . # #",
		"# # . # # # . #",
		"# # # # # . # #")
}

// sizedNumbers has a list of zeros that goes with a board, if the product of its sizes is one that a list may have.
func sizedNumbers(b impl.Board) []int {
	size := b.Wide * b.High
	if size < 0 || size > 1000 {
		return nil
	}
	return make([]int, size)
}

// noPuzzles have just one part each that puzzles may not have.
func noPuzzles() []impl.Puzzle {
	var list []impl.Puzzle
	for _, b := range badBoards() {
		list = append(list, impl.Puzzle{Board: b, Leaper: knight, Numbers: sizedNumbers(b)}, impl.Puzzle{Board: b, Leaper: knight})
	}
	for _, b := range []impl.Board{plain(6, 3), plain(3, 6), plain(8, 8), keeping(8, 8, 17), keeping(6, 3, 17), holed(5, 5, 0, 4, 6, 8, 12, 16, 18, 20)} {
		list = append(list, blank(b, knight), blank(b, single), blank(b, impl.Leaper{A: 5, B: 5}))
	}
	good := ringPuzzle()
	for _, l := range badLeapers() {
		list = append(list, impl.Puzzle{Board: good.Board, Leaper: l, Numbers: good.Numbers}, blank(plain(1, 1), l))
	}
	for _, numbers := range [][]int{nil, {}, {1}, {0}, good.Numbers[:8], append(slices.Clone(good.Numbers), 0), append(slices.Clone(good.Numbers), 3), make([]int, 64), make([]int, 1000)} {
		list = append(list, impl.Puzzle{Board: good.Board, Leaper: knight, Numbers: numbers})
	}
	for _, n := range append([]int{1, 2, 9, 10, 16}, extremes...) {
		for _, cell := range []int{1, 4, 8} { // gaps and the hole
			list = append(list, numbered(good, cell, n))
		}
	}
	list = append(list, numbered(good, 0, 2), numbered(good, 5, 1), numbered(good, 4, 3), numbered(good, 4, 8))
	for _, n := range append([]int{2, 3}, extremes...) {
		list = append(list, numbered(blank(plain(1, 1), single), 0, n), numbered(blank(onlyCell(4, 4, 9), knight), 9, n), numbered(blank(onlyCell(4, 4, 9), knight), 8, n))
	}
	return append(list, numbered(blank(onlyCell(4, 4, 9), knight), 0, 1), numbered(blank(keeping(8, 8, 16), knight), 63, 1))
}

// noPuzzleTexts are no PuzzleTexts.
func noPuzzleTexts() []string {
	texts := []string{
		"", ":", ",", "/", ",:", "1,2", "1,2:", "1:.", ",2:.", "1,:.", "1:2,.", "1,2,3:.", "1;2:.", "1 2:.", "1.2:.", "1,2;.", "1,2.", "2:1:.",
		"2,1:.", "0,0:.", "1,6:.", "6,6:.", "-1,2:.", "1,-2:.", "+1,2:.", "1,+2:.", "01,2:.", "1,02:.", "00,1:.", "-0,1:.", " 1,2:.", "1, 2:.", "1,2 :.", "1,2: .", "a,b:.", "1,2:a",
		"1,2:0", "1,2:2", "1,2:-1", "1,2:+1", "1,2:01", "1,2:1.", "1,2:.1", "1,2:..", "1,2:##", "1,2:#.", "1,2:1 ", "1,2: 1", "1,2:1e0", "1,2:0x1", "1,2:1_", "1,2:\xef\xbc\x91",
		"1,2:#", "1,2:#,#/#,#", "1,2:,", "1,2:.,", "1,2:,.", "1,2:.,,.", "1,2:./", "1,2:/.", "1,2:.//.", "1,2:/", "1,2:.,./.", "1,2:./.,.", "1,2:.,.,./.,.,.,./.,.", "1,2:.,.;.,.", "1,2:.,.|.,.", "1,2:.,.\n.,.",
		"1,2::.", "1,2:.:", "1,2:.:.", "1,2:.,:", "1,2:./.:", "1,2:.\n", "1,2:.\x00", "\x001,2:.", "1,2:\x00", "1,2:.\xff", "1,2:*", "1,2:-", "1,2:x", "1,2:O",
		"1,2:1,1", "1,2:1,.,./.,#,1/.,.,.", "1,2:1,.,./.,#,9/.,.,.", "1,2:0,.,./.,#,2/.,.,.", "1,2:1,.,./.,0,2/.,.,.,", "1,2:1,.,./.,#,2/.,.", "1,2:1,.,./.,#,2/.,.,./", "1,2:1,.,./.,#,2/.,.,.,.",
		"1,2:1,.,.,.,#,2,.,.,./", "1,2:1,./.,#,2/.,.,.,.", "1,2:1,.,./.,#,02/.,.,.", "1,2:1,.,./.,#,18446744073709551618/.,.,.", "1,2:1,.,./.,#,9223372036854775808/.,.,.", "1,2:1,.,./.,#,-9223372036854775808/.,.,.",
		"1,18446744073709551618:.", "18446744073709551617,2:.", "9223372036854775807,9223372036854775807:.",
		"1,2:.,#,#,#,#,#,#,#,#", "1,2:.,.,.,.,.,.,.,.,.", "1,2:.,.,.,.,.,./.,.,.,.,.,./.,.,.,.,.,.", // nine columns, and 18 cells
		"1,2:." + strings.Repeat("/#", 8), "1,2:." + strings.Repeat("/.", 8), "1,2:.,.,.,.,./.,.,.,.,./.,.,.,.,./.,.,#,#,#", // nine rows, and 17 cells
	}
	for _, part := range []string{"#", ".", "1", ",", "/", ":", "#,", "./", ".,./", "1,2:", "1,2:./"} {
		texts = append(texts, strings.Repeat(part, 100), "1,2:"+strings.Repeat(part, 64), "1,2:"+strings.Repeat(part, 100000))
	}
	return append(texts, strings.Repeat("1", 1000)+",2:.", "1,2:"+strings.Repeat("0", 1000)+"1", "1,2:1"+strings.Repeat(" ", 1000))
}

// addBadPuzzles adds what chapter 9 forbids: what is no puzzle (1), cells that are no gaps (2), numbers that do not fit there (3), cells without a number (4), puzzles with no solution (5), with too many (6), with more than one (7), and without a hint (8), tours of which no puzzle is made, and no such puzzles (9), and texts of none (0).
func addBadPuzzles(add func(letter string, change func(in *input))) {
	for _, p := range noPuzzles() {
		add("1", func(in *input) { in.puzzle = p })
		add("1", func(in *input) { in.puzzle, in.gap, in.known, in.number = p, 0, 0, 1 })
	}
	for _, cell := range append([]int{0, 4, 5, 9, 10, 16}, extremes...) {
		add("2", func(in *input) { in.gap = cell })
	}
	for _, n := range append([]int{0, 1, 2, 9, 10, 16}, extremes...) {
		add("3", func(in *input) { in.number = n })
	}
	for _, cell := range append([]int{1, 2, 3, 4, 6, 7, 8, 9, 10, 16}, extremes...) {
		add("4", func(in *input) { in.known = cell })
	}
	for _, p := range unsolved() {
		add("5", func(in *input) { in.puzzle = p })
	}
	for _, p := range []impl.Puzzle{solutions201(), blank(plain(4, 4), single), blank(plain(5, 3), single)} {
		add("6", func(in *input) { in.puzzle = p })
	}
	for _, p := range []impl.Puzzle{solutions200(), blank(ringPuzzle().Board, knight), numbered(ringPuzzle(), 0, 0), numbered(ringPuzzle(), 5, 0), blank(plain(4, 3), knight), blank(plain(2, 1), single)} {
		add("7", func(in *input) { in.puzzle = p })
	}
	for _, p := range []impl.Puzzle{blank(ringPuzzle().Board, knight), puzzleOf(knight, "1 4 7", "6 # 2", "3 8 5"), puzzleOf(single, "1"), blank(plain(2, 1), single)} {
		add("8", func(in *input) { in.puzzle = p })
	}
	for _, n := range beyond(1, 20, 0, 21, 22, 40) {
		add("9", func(in *input) { in.rate = n })
	}
	rows := slices.Concat(up(0, 8), []int{15, 14, 13, 12, 11, 10, 9, 8, 16})
	for _, b := range []impl.Board{keeping(8, 3, 17), keeping(8, 8, 17)} {
		add("9", func(in *input) { in.board, in.leaper, in.path = b, single, rows })
	}
	for _, text := range noPuzzleTexts() {
		add("0", func(in *input) { in.told = text })
	}
}

// unsolved are puzzles that no tour solves: as the board has none, or none with such numbers.
func unsolved() []impl.Puzzle {
	return []impl.Puzzle{
		blank(plain(3, 3), knight), blank(plain(4, 4), knight), blank(plain(2, 1), knight),
		puzzleOf(knight, "1 2 .", ". # .", ". . ."), puzzleOf(knight, "1 . 2", ". # .", ". . ."), puzzleOf(knight, "1 . .", ". # 4", ". . ."),
		puzzleOf(knight, "1 4 7", "6 # 3", "2 8 5"), puzzleOf(knight, "1 . .", ". # 2", ". 7 ."), puzzleOf(single, "2 1 ."), puzzleOf(single, "1 2 # 3 4"),
		puzzleOf(single, ". 1 .", ". . .", ". . ."), // of nine cells the tours begin in a corner or in the middle
	}
}

func TestWhatIsNoPuzzle(t *testing.T) {
	for _, p := range noPuzzles() {
		if impl.IsPuzzle(p) {
			t.Error("IsPuzzle admits", p)
		}
	}
	for _, text := range noPuzzleTexts() {
		wants(t, "ParsePuzzle of "+text, results(impl.ParsePuzzle(text)), impl.Puzzle{}, false)
	}
}

// A board of 16 cells may have a puzzle, whatever its size is, and one of 17 may not.
func TestMostCellsOfPuzzles(t *testing.T) {
	wants(t, "the limits", results(impl.MaxPuzzled, impl.MaxSolutions), 16, 200)
	for w := 1; w <= 8; w++ {
		for h := 1; h <= 8; h++ {
			for cells := 1; cells <= w*h; cells++ {
				p := blank(keeping(w, h, cells), knight)
				wants(t, named("IsPuzzle", w, h, cells), results(impl.IsPuzzle(p)), cells <= 16)
				for n := -1; n <= 18; n++ {
					wants(t, named("IsPuzzle with a number", w, h, cells, n), results(impl.IsPuzzle(numbered(p, 0, n))), cells <= 16 && n >= 0 && n <= cells)
				}
			}
		}
	}
}

// IsSolution takes any list.
func TestListsThatAreNoSolutions(t *testing.T) {
	lists := [][]int{nil, {}, {0}, {0, 5}, {0, 0}, ring[:7], ring[1:], append(slices.Clone(ring), 0), slices.Repeat(ring, 8), slices.Repeat(ring, 100), {0, 5, 6, 1, 8, 3, 2, 4}, {0, 5, 6, 1, 8, 3, 7, 2}, make([]int, 8), make([]int, 1000)}
	for _, n := range append([]int{4, 9, 16}, extremes...) {
		lists = append(lists, []int{n}, []int{0, 5, 6, 1, 8, 3, 2, n}, []int{n, 5, 6, 1, 8, 3, 2, 7}, append(slices.Clone(ring), n))
	}
	for _, list := range lists {
		wants(t, named("IsSolution", list...), results(impl.IsSolution(ringPuzzle(), list)), false, true)
		wants(t, named("IsSolution of gaps", list...), results(impl.IsSolution(blank(holed(3, 3, 4), knight), list)), false, true)
	}
}

// What a puzzle is made of may be any tour of at most 16 cells.
func TestToursOfWhichPuzzlesAreMade(t *testing.T) {
	rows := slices.Concat(up(0, 8), []int{15, 14, 13, 12, 11, 10, 9, 8, 16})
	for every := -1; every <= 22; every++ {
		_, ok := impl.MakePuzzle(keeping(8, 3, 16), single, rows[:16], every)
		wants(t, named("MakePuzzle of 16 cells", every), results(ok), every >= 1 && every <= 20)
		_, ok = impl.MakePuzzle(keeping(8, 3, 17), single, rows, every)
		wants(t, named("MakePuzzle of 17 cells", every), results(ok), false)
		_, ok = impl.MakePuzzle(keeping(8, 3, 16), single, rows[:15], every)
		wants(t, named("MakePuzzle of a walk", every), results(ok), false)
	}
}
