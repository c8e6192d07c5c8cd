package tests

import (
	"slices"
	"testing"

	"loop.example/g01239/impl"
)

func TestTurnBoard(t *testing.T) {
	wants(t, "TurnBoard 4 2", results(impl.TurnBoard(holed(4, 2, 0, 3, 6))), holed(2, 4, 1, 4, 7), true)
	wants(t, "TurnBoard 1 1", results(impl.TurnBoard(plain(1, 1))), plain(1, 1), true)
	wants(t, "TurnBoard 1 8", results(impl.TurnBoard(holed(1, 8, 0, 1))), holed(8, 1, 6, 7), true)
	wants(t, "MirrorBoard 4 2", results(impl.MirrorBoard(holed(4, 2, 0, 1, 6))), holed(4, 2, 2, 3, 5), true)
	wants(t, "MirrorBoard 1 8", results(impl.MirrorBoard(holed(1, 8, 0, 5))), holed(1, 8, 0, 5), true)
	for _, b := range manyBoards() {
		turned, mirrored := plain(b.High, b.Wide), plain(b.Wide, b.High)
		for _, hole := range b.Holes {
			x, y := hole%b.Wide, hole/b.Wide
			turned.Holes = append(turned.Holes, x*b.High+b.High-1-y)
			mirrored.Holes = append(mirrored.Holes, y*b.Wide+b.Wide-1-x)
		}
		slices.Sort(turned.Holes)
		slices.Sort(mirrored.Holes)
		wants(t, "TurnBoard", results(impl.TurnBoard(b)), turned, true)
		wants(t, "MirrorBoard", results(impl.MirrorBoard(b)), mirrored, true)
	}
}

func TestTurnCell(t *testing.T) {
	for _, b := range manyBoards() {
		for _, cell := range there(b) {
			x, y := cell%b.Wide, cell/b.Wide
			wants(t, named("TurnCell", cell), results(impl.TurnCell(b, cell)), x*b.High+b.High-1-y, true)
			wants(t, named("MirrorCell", cell), results(impl.MirrorCell(b, cell)), y*b.Wide+b.Wide-1-x, true)
		}
	}
}

// A carry is one of the two ways in which boards and cells change.
type carry struct {
	name  string
	times int // as often done, it changes nothing
	board func(impl.Board) (impl.Board, bool)
	cell  func(impl.Board, int) (int, bool)
}

var carries = []carry{
	{"turned", 4, impl.TurnBoard, impl.TurnCell},
	{"mirrored", 2, impl.MirrorBoard, impl.MirrorCell},
}

func TestCarriedBoardsComeBack(t *testing.T) {
	for _, c := range carries {
		for _, b := range manyBoards() {
			now, cells := b, there(b)
			for range c.times {
				after := []int{}
				for _, cell := range cells {
					moved, ok := c.cell(now, cell)
					if !ok {
						t.Fatal("no cell of", now, "from", cell, c.name)
					}
					after = append(after, moved)
				}
				next, ok := c.board(now)
				if !ok || !impl.IsBoard(next) {
					t.Fatal(now, c.name, "is no board:", next)
				}
				sorted := slices.Clone(after)
				slices.Sort(sorted)
				wants(t, "CellsOf a board "+c.name, results(impl.CellsOf(next)), sorted, true)
				now, cells = next, after
			}
			if !same(now, b) || !same(cells, there(b)) {
				t.Fatal(b, c.name, "again and again came to", now)
			}
		}
	}
}

func TestLeapsAreCarried(t *testing.T) {
	for _, c := range carries {
		for _, b := range manyBoards() {
			after, _ := c.board(b)
			for _, l := range allLeapers() {
				for _, from := range there(b) {
					reached, ok := impl.LeapsFrom(b, l, from)
					if !ok {
						t.Fatal("LeapsFrom failed", b, l, from)
					}
					var wanted []int
					for _, to := range reached {
						cell, _ := c.cell(b, to)
						wanted = append(wanted, cell)
					}
					slices.Sort(wanted)
					start, _ := c.cell(b, from)
					wants(t, "LeapsFrom on a board "+c.name, results(impl.LeapsFrom(after, l, start)), wanted, true)
				}
			}
		}
	}
}

func TestLeapsLeadThereAndBack(t *testing.T) {
	for _, b := range manyBoards() {
		for _, l := range allLeapers() {
			for _, from := range there(b) {
				reached, _ := impl.LeapsFrom(b, l, from)
				for _, to := range reached {
					back, ok := impl.LeapsFrom(b, l, to)
					if !ok || !slices.Contains(back, from) {
						t.Fatal("no leap back", b, l, from, to)
					}
					wants(t, named("IsLeap", from, to), results(impl.IsLeap(b, l, from, to)), true, true)
					wants(t, named("IsLeap", to, from), results(impl.IsLeap(b, l, to, from)), true, true)
				}
			}
		}
	}
}
