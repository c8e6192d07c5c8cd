package tests

import (
	"slices"
	"strings"
	"testing"

	"loop.example/g01239/impl"
)

func TestBoardExample(t *testing.T) {
	b, ok := impl.PlainBoard(3, 3)
	wants(t, "PlainBoard", results(b, ok), impl.Board{Wide: 3, High: 3}, true)
	wants(t, "LeapsFrom a1", results(impl.LeapsFrom(b, knight, 0)), []int{5, 7}, true)
	wants(t, "NameOf 0", results(impl.NameOf(b, 0)), "a1", true)
	wants(t, "NameOf 5", results(impl.NameOf(b, 5)), "c2", true)
	wants(t, "NameOf 7", results(impl.NameOf(b, 7)), "b3", true)
	wants(t, "LeapsFrom the middle", results(impl.LeapsFrom(b, knight, 4)), []int{}, true)
	wants(t, "CountLeaps", results(impl.CountLeaps(b, knight)), 8, true)
	wants(t, "TurnCell 1", results(impl.TurnCell(b, 1)), 5, true)
	wants(t, "CountLeaps 8 8", results(impl.CountLeaps(plain(8, 8), knight)), 168, true)
	wants(t, "CountPlainLeaps 8 8", results(impl.CountPlainLeaps(8, 8, knight)), 168, true)
}

func TestLimitsOfBoards(t *testing.T) {
	wants(t, "the limits", results(impl.MaxStep, impl.MaxBoard), 5, 8)
}

func TestIsLeaper(t *testing.T) {
	for a := -2; a <= 7; a++ {
		for b := -2; b <= 7; b++ {
			wanted := slices.Contains(allLeapers(), impl.Leaper{A: a, B: b})
			wants(t, named("IsLeaper", a, b), results(impl.IsLeaper(impl.Leaper{A: a, B: b})), wanted)
		}
	}
}

func TestIsBoard(t *testing.T) {
	for _, b := range manyBoards() {
		if !impl.IsBoard(b) {
			t.Fatal("IsBoard denies", b)
		}
	}
	for w := -1; w <= 9; w++ {
		for h := -1; h <= 9; h++ {
			wanted := w >= 1 && w <= 8 && h >= 1 && h <= 8
			wants(t, named("IsBoard", w, h), results(impl.IsBoard(plain(w, h))), wanted)
			b, ok := impl.PlainBoard(w, h)
			if wanted {
				wants(t, named("PlainBoard", w, h), results(b, ok), plain(w, h), true)
			} else {
				wants(t, named("PlainBoard", w, h), results(b, ok), impl.Board{}, false)
			}
		}
	}
}

func TestCells(t *testing.T) {
	for _, b := range manyBoards() {
		cells := there(b)
		wants(t, "CellsOf", results(impl.CellsOf(b)), cells, true)
		wants(t, "CountCells", results(impl.CountCells(b)), len(cells), true)
		for cell := -3; cell < b.Wide*b.High+3; cell++ {
			wants(t, named("HasCell", cell), results(impl.HasCell(b, cell)), slices.Contains(cells, cell), true)
		}
	}
}

func TestNames(t *testing.T) {
	for _, b := range manyBoards() {
		for cell := range b.Wide * b.High {
			name := "abcdefgh"[cell%b.Wide:cell%b.Wide+1] + "12345678"[cell/b.Wide:cell/b.Wide+1]
			if isHole(b, cell) {
				wants(t, named("NameOf hole", cell), results(impl.NameOf(b, cell)), "", false)
				wants(t, "CellOfName of hole "+name, results(impl.CellOfName(b, name)), 0, false)
			} else {
				wants(t, named("NameOf", cell), results(impl.NameOf(b, cell)), name, true)
				wants(t, "CellOfName "+name, results(impl.CellOfName(b, name)), cell, true)
			}
		}
	}
}

// noNames belong to no cell, even of a board of 8 by 8 cells.
var noNames = []string{"", "a", "1", "a0", "a9", "i1", "`1", "A1", "1a", "a10", "a01", "a-1", "a1 ", " a1", "a1-", "aa", "11", "\x001", "a\x00", "\xe11", "a\xb1", "ä1", strings.Repeat("a1", 1000)}

func TestNamesOfNoCell(t *testing.T) {
	for _, name := range noNames {
		wants(t, "CellOfName "+name, results(impl.CellOfName(plain(8, 8), name)), 0, false)
	}
	// d1 would have the number of a2, and a3 one behind the last.
	for _, name := range []string{"d1", "d2", "a3", "c3"} {
		wants(t, "CellOfName "+name, results(impl.CellOfName(plain(3, 2), name)), 0, false)
	}
	wants(t, "CellOfName c2", results(impl.CellOfName(plain(3, 2), "c2")), 5, true)
}

func TestStepsOf(t *testing.T) {
	eight := [][]int{{-2, -1}, {-2, 1}, {-1, -2}, {-1, 2}, {1, -2}, {1, 2}, {2, -1}, {2, 1}}
	wants(t, "StepsOf 1 2", results(impl.StepsOf(knight)), eight, true)
	wants(t, "StepsOf 0 3", results(impl.StepsOf(impl.Leaper{A: 0, B: 3})), [][]int{{-3, 0}, {0, -3}, {0, 3}, {3, 0}}, true)
	wants(t, "StepsOf 2 2", results(impl.StepsOf(impl.Leaper{A: 2, B: 2})), [][]int{{-2, -2}, {-2, 2}, {2, -2}, {2, 2}}, true)
	for _, l := range allLeapers() {
		var steps [][]int
		for x := -5; x <= 5; x++ {
			for y := -5; y <= 5; y++ {
				if distance(x, 0) == l.A && distance(y, 0) == l.B || distance(x, 0) == l.B && distance(y, 0) == l.A {
					steps = append(steps, []int{x, y})
				}
			}
		}
		wants(t, named("StepsOf", l.A, l.B), results(impl.StepsOf(l)), steps, true)
	}
}

func TestLeapsOfAllLeapers(t *testing.T) {
	for _, b := range manyBoards() {
		cells := there(b)
		for _, l := range allLeapers() {
			var degrees []int
			ends := 0
			for _, from := range cells {
				var reached []int
				for _, to := range cells {
					if leaps(b, l, from, to) {
						reached = append(reached, to)
					}
				}
				wants(t, named("LeapsFrom", from), results(impl.LeapsFrom(b, l, from)), reached, true)
				degrees = append(degrees, len(reached))
				ends += len(reached)
			}
			wants(t, "DegreesOf", results(impl.DegreesOf(b, l)), degrees, true)
			wants(t, "CountLeaps", results(impl.CountLeaps(b, l)), ends/2, true)
			if len(b.Holes) == 0 {
				wants(t, named("CountPlainLeaps", b.Wide, b.High, l.A, l.B), results(impl.CountPlainLeaps(b.Wide, b.High, l)), ends/2, true)
			}
		}
	}
}

func TestIsLeap(t *testing.T) {
	for _, b := range []impl.Board{plain(1, 1), plain(5, 4), plain(3, 8), plain(8, 6), plain(6, 6), holed(4, 5, 0, 6, 7, 13), holed(7, 3, 5, 20), onlyCell(4, 4, 9)} {
		for _, l := range allLeapers() {
			for _, from := range there(b) {
				for _, to := range there(b) {
					if got, ok := impl.IsLeap(b, l, from, to); got != leaps(b, l, from, to) || !ok {
						t.Fatal("IsLeap", b, l, from, to, "returned", got, ok)
					}
				}
			}
		}
	}
	wants(t, "IsLeap to itself", results(impl.IsLeap(plain(3, 3), knight, 4, 4)), false, true)
}

func TestIsPath(t *testing.T) {
	b := holed(3, 3, 4)
	there := []int{0, 5}
	back := append(slices.Repeat(there, 31), 0, 7)
	cases := []struct {
		what string
		path []int
		is   bool
	}{
		{"no cell", nil, false},
		{"one cell", []int{8}, true},
		{"one hole", []int{4}, false},
		{"one number that is too great", []int{9}, false},
		{"one number less than 0", []int{-1}, false},
		{"leaps", []int{0, 5, 6, 1}, true},
		{"back and to a third cell", []int{0, 5, 0, 7}, true},
		{"a last step that is no leap", []int{0, 5, 6, 2}, false},
		{"a first step that is no leap", []int{0, 1, 6}, false},
		{"the same cell twice at once", []int{0, 0}, false},
		{"a hole at the end", []int{0, 5, 4}, false},
		{"numbers of any size", []int{0, 1 << 62, -1 << 63}, false},
		{"64 cells", back, true},
		{"65 cells", append(slices.Clone(back), 0), false},
		{"66 cells", append(slices.Clone(back), 0, 5), false},
	}
	for _, c := range cases {
		wants(t, "IsPath of "+c.what, results(impl.IsPath(b, knight, c.path)), c.is, true)
	}
	wants(t, "IsPath over a border", results(impl.IsPath(plain(4, 4), knight, []int{3, 5})), true, true)
	wants(t, "IsPath around a border", results(impl.IsPath(plain(4, 4), knight, []int{2, 4})), true, true)
	wants(t, "IsPath around a border", results(impl.IsPath(plain(4, 4), knight, []int{3, 9})), false, true)
	wants(t, "IsPath of one cell", results(impl.IsPath(plain(1, 1), knight, []int{0})), true, true)
}

func TestPathTexts(t *testing.T) {
	b := holed(4, 5, 6)
	all := strings.TrimSuffix(strings.Repeat("a1-d5-", 32), "-")
	cases := []struct {
		text string
		path []int
	}{
		{"", nil},
		{"a1", []int{0}},
		{"d5", []int{19}},
		{"a1-c3-b1", []int{0, 10, 1}},
		{"a1-a1-b1", []int{0, 0, 1}},
		{all, slices.Repeat([]int{0, 19}, 32)},
	}
	for _, c := range cases {
		wants(t, "PathText", results(impl.PathText(b, c.path)), c.text, true)
		wants(t, "ParsePath "+c.text, results(impl.ParsePath(b, c.text)), c.path, true)
	}
	noTexts := append([]string{"-", "-a1", "a1-", "a1--b1", "a1-c2", "a1-e1", "a1-a6", "a1 b1", "a1,b1", "a1\n", "a1-b1-x", "a1b1", all + "-a1", all + "-", strings.Repeat("-", 63), strings.Repeat("a1-", 100000)}, noNames[1:]...)
	for _, text := range noTexts {
		wants(t, "ParsePath "+text, results(impl.ParsePath(b, text)), []int(nil), false)
	}
	noPaths := [][]int{{6}, {0, 6}, {20}, {-1}, {0, 1 << 62}, {-1 << 63}, make([]int, 65), make([]int, 1000)}
	for _, path := range noPaths {
		wants(t, "PathText", results(impl.PathText(b, path)), "", false)
	}
}
