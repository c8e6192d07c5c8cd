package tests

import (
	"slices"
	"testing"

	"loop.example/g01239/impl"
)

func TestBlockExample(t *testing.T) {
	b := plain(3, 3)
	wants(t, "IsClosedWalk", results(impl.IsClosedWalk(b, knight, ring)), true, true)
	wants(t, "IsClosedWalk of a part", results(impl.IsClosedWalk(b, knight, ring[:4])), false, true)
	wants(t, "ChainWalks", results(impl.ChainWalks(b, knight, ring[:4], ring[4:])), ring, true)
	wants(t, "StepsOfWalk", results(impl.StepsOfWalk(b, knight, []int{0, 5})), []int{7}, true)
	wants(t, "TurnTail", results(impl.TurnTail(b, knight, []int{0, 7, 2, 3}, 1)), []int(nil), false)
	wants(t, "RowSumsOf", results(impl.RowSumsOf(b, knight, ring)), []int{12, 8, 16}, true)
	wants(t, "the limit", results(impl.MaxTurns), 3)
}

func TestBlocksOfOneCell(t *testing.T) {
	for _, b := range []impl.Board{plain(1, 1), onlyCell(3, 2, 5), onlyCell(8, 8, 0), onlyCell(8, 8, 63)} {
		for _, l := range allLeapers() {
			isBlock(t, b, l, there(b)[0], b.Wide*b.High == 1)
		}
	}
	for _, cell := range there(holed(4, 3, 3, 5, 7, 11)) {
		isBlock(t, holed(4, 3, 3, 5, 7, 11), knight, cell, false)
	}
}

// isBlock asks all that is told of a walk of one cell.
func isBlock(t *testing.T, b impl.Board, l impl.Leaper, cell int, magic bool) {
	t.Helper()
	walk := []int{cell}
	rows, columns := make([]int, b.High), make([]int, b.Wide)
	rows[cell/b.Wide], columns[cell%b.Wide] = 1, 1
	wants(t, "ReverseWalk", results(impl.ReverseWalk(b, l, walk)), walk, true)
	wants(t, "TailTurns", results(impl.TailTurns(b, l, walk)), []int(nil), true)
	wants(t, "IsClosedWalk", results(impl.IsClosedWalk(b, l, walk)), false, true)
	wants(t, "JoinClosed with itself", results(impl.JoinClosed(b, l, walk, walk)), []int(nil), false)
	wants(t, "CountJoins with itself", results(impl.CountJoins(b, l, walk, walk)), 0, false)
	wants(t, "ChainWalks with itself", results(impl.ChainWalks(b, l, walk, walk)), []int(nil), false)
	wants(t, "PlaceWalk", results(impl.PlaceWalk(b.Wide, b.High, walk, b, 0, 0)), walk, true)
	wants(t, "RowSumsOf", results(impl.RowSumsOf(b, l, walk)), rows, true)
	wants(t, "ColumnSumsOf", results(impl.ColumnSumsOf(b, l, walk)), columns, true)
	wants(t, "IsHalfMagic", results(impl.IsHalfMagic(b, l, walk)), magic, true)
	wants(t, "OppositePairs", results(impl.OppositePairs(b, l, walk)), 0, false)
	wants(t, "StepsOfWalk", results(impl.StepsOfWalk(b, l, walk)), []int(nil), true)
	wants(t, "WalkOfSteps", results(impl.WalkOfSteps(b, l, cell, nil)), walk, true)
	for k := -2; k <= 3; k++ {
		wants(t, named("TurnTail", k), results(impl.TurnTail(b, l, walk, k)), []int(nil), false)
		wants(t, named("CloseByTurns", k), results(impl.CloseByTurns(b, l, walk, k)), []int(nil), false)
	}
}

// A leap there and back is no closed walk, though its last cell leads to its first one.
func TestBlocksOfTwoCells(t *testing.T) {
	b := holed(3, 2, 1, 2)
	walk := []int{5, 0}
	wants(t, "ReverseWalk", results(impl.ReverseWalk(b, knight, walk)), []int{0, 5}, true)
	wants(t, "TurnTail", results(impl.TurnTail(b, knight, walk, 1)), walk, true)
	wants(t, "TurnTail at 0", results(impl.TurnTail(b, knight, walk, 0)), []int(nil), false)
	wants(t, "TurnTail at 2", results(impl.TurnTail(b, knight, walk, 2)), []int(nil), false)
	wants(t, "TailTurns", results(impl.TailTurns(b, knight, walk)), []int(nil), true)
	wants(t, "IsClosedWalk", results(impl.IsClosedWalk(b, knight, walk)), false, true)
	wants(t, "CloseByTurns", results(impl.CloseByTurns(b, knight, walk, 3)), []int(nil), false)
	wants(t, "JoinClosed", results(impl.JoinClosed(b, knight, walk, []int{3, 4})), []int(nil), false)
	wants(t, "JoinClosed", results(impl.JoinClosed(plain(2, 2), single, []int{0, 1}, []int{2, 3})), []int(nil), false)
	wants(t, "CountJoins", results(impl.CountJoins(plain(2, 2), single, []int{0, 1}, []int{2, 3})), 0, false)
	wants(t, "ChainWalks", results(impl.ChainWalks(b, knight, []int{5}, []int{0})), walk, true)
	wants(t, "ChainWalks without a leap", results(impl.ChainWalks(b, knight, []int{5}, []int{3})), []int(nil), false)
	wants(t, "OppositePairs", results(impl.OppositePairs(b, knight, walk)), 1, true)
	wants(t, "RowSumsOf", results(impl.RowSumsOf(b, knight, walk)), []int{2, 1}, true)
	wants(t, "ColumnSumsOf", results(impl.ColumnSumsOf(b, knight, walk)), []int{2, 0, 1}, true)
	wants(t, "StepsOfWalk", results(impl.StepsOfWalk(b, knight, walk)), []int{0}, true)
	wants(t, "WalkOfSteps", results(impl.WalkOfSteps(b, knight, 5, []int{0})), walk, true)
}

func TestTailsThatAreTurned(t *testing.T) {
	cases := []struct {
		board impl.Board
		l     impl.Leaper
		walk  []int
		turns []int
		made  [][]int
	}{
		{plain(3, 3), knight, ring, []int{1}, [][]int{{0, 7, 2, 3, 8, 1, 6, 5}}},
		{plain(3, 3), knight, ring[:7], nil, nil},
		{plain(3, 1), single, []int{0, 1, 2}, nil, nil},
		{plain(2, 2), single, []int{0, 1, 3, 2}, []int{1}, [][]int{{0, 2, 3, 1}}},
		{plain(3, 2), single, []int{0, 3, 4, 1, 2, 5}, []int{3}, [][]int{{0, 3, 4, 5, 2, 1}}},
		{plain(3, 3), single, []int{0, 1, 2, 5, 8, 7, 6, 3, 4}, []int{2, 4, 6}, [][]int{{0, 1, 4, 3, 6, 7, 8, 5, 2}, {0, 1, 2, 5, 4, 3, 6, 7, 8}, {0, 1, 2, 5, 8, 7, 4, 3, 6}}},
		{holed(3, 3, 1), single, []int{2, 5, 8, 7, 6, 3, 4}, []int{2, 4}, [][]int{{2, 5, 4, 3, 6, 7, 8}, {2, 5, 8, 7, 4, 3, 6}}},
	}
	for _, c := range cases {
		wants(t, named("TailTurns", c.walk...), results(impl.TailTurns(c.board, c.l, c.walk)), c.turns, true)
		for k := -1; k <= len(c.walk)+1; k++ {
			i := slices.Index(c.turns, k)
			switch {
			case i >= 0:
				wants(t, named("TurnTail", k), results(impl.TurnTail(c.board, c.l, c.walk, k)), c.made[i], true)
			case k == len(c.walk)-1: // the tail is one cell
				wants(t, named("TurnTail", k), results(impl.TurnTail(c.board, c.l, c.walk, k)), c.walk, true)
			default:
				wants(t, named("TurnTail", k), results(impl.TurnTail(c.board, c.l, c.walk, k)), []int(nil), false)
			}
		}
	}
}

func TestWalksClosedByTurns(t *testing.T) {
	snake := []int{0, 5, 6, 1, 2, 7, 8, 3, 4, 9}
	cases := []struct {
		board  impl.Board
		l      impl.Leaper
		walk   []int
		turns  int
		closed []int
	}{
		{plain(3, 3), knight, ring, 0, ring},
		{plain(3, 3), knight, []int{0, 7, 2, 3, 8, 1, 6, 5}, 0, []int{0, 7, 2, 3, 8, 1, 6, 5}},
		{plain(3, 2), single, []int{0, 3, 4, 1, 2, 5}, 1, []int{0, 3, 4, 5, 2, 1}},
		{plain(5, 4), knight, []int{7, 4, 13, 16, 5, 2}, 1, []int{7, 4, 13, 2, 5, 16}},
		{plain(4, 2), single, []int{4, 0, 1, 5, 6, 2, 3, 7}, 2, []int{4, 0, 1, 2, 3, 7, 6, 5}},
		{plain(5, 2), single, snake, 3, []int{0, 5, 6, 7, 8, 9, 4, 3, 2, 1}},
		{plain(6, 2), single, []int{0, 6, 7, 1, 2, 8, 9, 3, 4, 10, 11, 5}, 4, nil},
		{plain(3, 3), knight, ring[:7], 4, nil},
		{plain(8, 1), single, up(0, 8), 4, nil},
		{plain(3, 3), knight, []int{4}, 4, nil},
		{holed(5, 2, 9), single, snake[:9], 4, nil}, // nine cells cannot be closed
	}
	for _, c := range cases {
		for most := range 4 {
			if most >= c.turns {
				wants(t, named("CloseByTurns", most), results(impl.CloseByTurns(c.board, c.l, c.walk, most)), c.closed, true)
			} else {
				wants(t, named("CloseByTurns", most), results(impl.CloseByTurns(c.board, c.l, c.walk, most)), []int(nil), false)
			}
		}
	}
}

func TestClosedWalksThatAreJoined(t *testing.T) {
	cases := []struct {
		what   string
		board  impl.Board
		l      impl.Leaper
		p      []int
		q      []int
		joined []int
		count  int
	}{
		{"forwards", plain(4, 2), single, []int{0, 1, 5, 4}, []int{2, 3, 7, 6}, []int{0, 1, 2, 3, 7, 6, 5, 4}, 1},
		{"backwards", plain(4, 2), single, []int{0, 1, 5, 4}, []int{2, 6, 7, 3}, []int{0, 1, 2, 3, 7, 6, 5, 4}, 1},
		{"from a later cell", plain(4, 2), single, []int{0, 1, 5, 4}, []int{7, 6, 2, 3}, []int{0, 1, 2, 3, 7, 6, 5, 4}, 1},
		{"backwards from the last cell", plain(4, 2), single, []int{0, 1, 5, 4}, []int{6, 7, 3, 2}, []int{0, 1, 2, 3, 7, 6, 5, 4}, 1},
		{"behind the first cell", plain(4, 2), single, []int{1, 5, 4, 0}, []int{2, 3, 7, 6}, []int{1, 2, 3, 7, 6, 5, 4, 0}, 1},
		{"behind the last cell", plain(4, 2), single, []int{5, 4, 0, 1}, []int{2, 3, 7, 6}, []int{5, 4, 0, 1, 2, 3, 7, 6}, 1},
		{"to the other side", plain(4, 2), single, []int{2, 3, 7, 6}, []int{0, 1, 5, 4}, []int{2, 3, 7, 6, 5, 4, 0, 1}, 1},
		{"where there is a gap", plain(5, 2), single, []int{0, 1, 6, 5}, []int{3, 4, 9, 8}, nil, 0},
		{"where just one row has a gap", plain(5, 2), single, []int{0, 1, 6, 5}, []int{2, 3, 8, 7}, []int{0, 1, 2, 3, 8, 7, 6, 5}, 1},
		{"along two sides", plain(3, 4), single, []int{0, 1, 2, 5, 4, 3}, []int{6, 7, 8, 11, 10, 9}, []int{0, 1, 2, 5, 8, 11, 10, 9, 6, 7, 4, 3}, 2},
		{"by knights", plain(5, 4), knight, []int{0, 7, 18, 11}, []int{2, 5, 12, 9}, []int{0, 7, 18, 9, 12, 5, 2, 11}, 1},
		{"by knights that are apart", plain(4, 4), knight, []int{0, 6, 15, 9}, []int{1, 7, 14, 8}, nil, 0},
		{"on the same leaps as knights", plain(4, 4), knight, []int{9, 2, 11, 5, 14, 7}, []int{6, 13, 4, 10, 1, 8}, []int{9, 2, 4, 10, 1, 8, 6, 13, 11, 5, 14, 7}, 2},
	}
	for _, c := range cases {
		wants(t, "JoinClosed "+c.what, results(impl.JoinClosed(c.board, c.l, c.p, c.q)), c.joined, c.joined != nil)
		wants(t, "CountJoins "+c.what, results(impl.CountJoins(c.board, c.l, c.p, c.q)), c.count, true)
		if c.joined != nil {
			wants(t, "IsClosedWalk "+c.what, results(impl.IsClosedWalk(c.board, c.l, c.joined)), true, true)
		}
	}
	half := along()[:32]
	wants(t, "JoinClosed of a walk that is not closed", results(impl.JoinClosed(plain(8, 8), single, half, []int{62, 63, 55, 54})), []int(nil), false)
	wants(t, "CountJoins of a walk that is not closed", results(impl.CountJoins(plain(8, 8), single, []int{62, 63, 55, 54}, half)), 0, false)
}

func TestChains(t *testing.T) {
	b := holed(3, 3, 4)
	cases := []struct {
		p     []int
		q     []int
		chain []int
	}{
		{[]int{0}, []int{5}, []int{0, 5}},
		{[]int{0}, []int{1}, nil},
		{[]int{0, 5}, []int{6, 1}, []int{0, 5, 6, 1}},
		{[]int{0, 5}, []int{1, 6}, nil}, // only the ends are chained
		{[]int{5, 0}, []int{6, 1}, nil},
		{[]int{0, 5, 6}, []int{1, 8, 3, 2, 7}, []int{0, 5, 6, 1, 8, 3, 2, 7}},
		{[]int{0, 5}, []int{0}, nil}, // a leap to a cell that both have
		{[]int{0, 5}, []int{6, 5}, nil},
		{[]int{0, 5}, []int{0, 7}, nil},
		{[]int{0, 7}, []int{0, 5}, nil},
		{ring, ring, nil},
		{ring, []int{0}, nil},
		{ring, []int{4}, nil},
		{nil, ring, nil},
		{ring, nil, nil},
	}
	for _, c := range cases {
		wants(t, "ChainWalks", results(impl.ChainWalks(b, knight, c.p, c.q)), c.chain, c.chain != nil)
	}
	for _, k := range []int{1, 32, 63} {
		wants(t, "ChainWalks of 64 cells", results(impl.ChainWalks(plain(8, 8), single, along()[:k], along()[k:])), along(), true)
	}
}

func TestPlaceWalk(t *testing.T) {
	cases := []struct {
		w      int
		h      int
		list   []int
		board  impl.Board
		x      int
		y      int
		placed []int
	}{
		{3, 3, ring, plain(8, 8), 0, 0, []int{0, 10, 16, 1, 18, 8, 2, 17}},
		{3, 3, ring, plain(8, 8), 5, 5, []int{45, 55, 61, 46, 63, 53, 47, 62}},
		{3, 3, ring, plain(8, 8), 6, 5, nil},
		{3, 3, ring, plain(8, 8), 5, 6, nil},
		{3, 3, ring, holed(8, 8, 0, 54), 5, 5, []int{45, 55, 61, 46, 63, 53, 47, 62}}, // the hole is in its middle
		{3, 3, ring, holed(8, 8, 63), 5, 5, nil},
		{3, 3, ring, plain(2, 8), 0, 0, nil},
		{3, 3, []int{8}, plain(3, 3), 0, 0, []int{8}},
		{3, 3, []int{8}, plain(3, 3), 1, 0, nil}, // the next number is that of no cell
		{3, 3, []int{5}, plain(3, 3), 1, 0, nil}, // the next number is that of a cell in the row above
		{3, 3, []int{0}, plain(3, 3), 3, 0, nil},
		{3, 3, []int{0}, plain(3, 3), 2, 2, []int{8}},
		{3, 3, []int{9}, plain(8, 8), 0, 0, nil},
		{3, 3, []int{-1}, plain(8, 8), 1, 1, nil},
		{3, 3, []int{0, 1, 0}, plain(8, 8), 1, 1, nil},
		{3, 3, []int{}, plain(8, 8), 1, 1, nil},
		{3, 3, []int{4, 0, 8}, plain(8, 8), 1, 0, []int{10, 1, 19}}, // no walk
		{8, 1, up(0, 8), plain(8, 8), 0, 7, up(56, 8)},
		{1, 8, []int{7, 0}, plain(8, 8), 7, 0, []int{63, 7}},
		{8, 8, up(0, 64), plain(8, 8), 0, 0, up(0, 64)},
		{8, 8, append(up(0, 64), 0), plain(8, 8), 0, 0, nil},
		{8, 8, []int{63}, plain(1, 1), 0, 0, nil},
		{8, 8, []int{0}, plain(1, 1), 0, 0, []int{0}},
		{8, 8, []int{0}, plain(8, 8), 0, -1, nil},
		{8, 8, []int{9}, plain(8, 8), -1, -1, nil}, // also where the cell would be there
		{8, 8, []int{9}, plain(8, 8), 0, -1, nil},
	}
	for _, c := range cases {
		wants(t, named("PlaceWalk", c.w, c.h, c.x, c.y), results(impl.PlaceWalk(c.w, c.h, c.list, c.board, c.x, c.y)), c.placed, c.placed != nil)
	}
}

// halfMagic is a tour of 64 knight's leaps whose numbers make 260 in each row and in each column.
func halfMagic() []int {
	numbers := []int{
		1, 30, 47, 52, 5, 28, 43, 54,
		48, 51, 2, 29, 44, 53, 6, 27,
		31, 46, 49, 4, 25, 8, 55, 42,
		50, 3, 32, 45, 56, 41, 26, 7,
		33, 62, 15, 20, 9, 24, 39, 58,
		16, 19, 34, 61, 40, 57, 10, 23,
		63, 14, 17, 36, 21, 12, 59, 38,
		18, 35, 64, 13, 60, 37, 22, 11,
	}
	tour := make([]int, 64)
	for cell, n := range numbers {
		tour[n-1] = cell
	}
	return tour
}

func TestSumsOfRowsAndColumns(t *testing.T) {
	magic := halfMagic()
	cases := []struct {
		board   impl.Board
		l       impl.Leaper
		walk    []int
		rows    []int
		columns []int
		magic   bool
	}{
		{plain(8, 8), knight, magic, slices.Repeat([]int{260}, 8), slices.Repeat([]int{260}, 8), true},
		{plain(8, 8), knight, backwards(magic), slices.Repeat([]int{260}, 8), slices.Repeat([]int{260}, 8), true},
		{plain(8, 8), knight, magic[:3], []int{1, 2, 0, 3, 0, 0, 0, 0}, []int{1, 3, 2, 0, 0, 0, 0, 0}, false},
		{plain(3, 3), knight, ring, []int{12, 8, 16}, []int{10, 12, 14}, false},
		{plain(4, 2), single, []int{7, 3, 2, 6, 5, 1, 0, 4}, []int{18, 18}, []int{15, 11, 7, 3}, false}, // only the rows
		{plain(4, 2), single, []int{7, 6, 5, 4, 0, 1, 2, 3}, []int{26, 10}, []int{9, 9, 9, 9}, false},   // only the columns
		{plain(2, 1), single, []int{0, 1}, []int{3}, []int{1, 2}, false},
		{plain(1, 2), single, []int{1, 0}, []int{2, 1}, []int{3}, false},
		{holed(2, 1, 0), single, []int{1}, []int{1}, []int{0, 1}, false}, // a column of holes makes 0
		{holed(1, 2, 1), single, []int{0}, []int{1, 0}, []int{1}, false},
		{plain(1, 1), knight, []int{0}, []int{1}, []int{1}, true},
		{plain(5, 2), single, []int{4, 3, 8, 9}, []int{3, 7}, []int{0, 0, 0, 5, 5}, false},
	}
	for _, c := range cases {
		wants(t, named("RowSumsOf", c.walk...), results(impl.RowSumsOf(c.board, c.l, c.walk)), c.rows, true)
		wants(t, named("ColumnSumsOf", c.walk...), results(impl.ColumnSumsOf(c.board, c.l, c.walk)), c.columns, true)
		wants(t, named("IsHalfMagic", c.walk...), results(impl.IsHalfMagic(c.board, c.l, c.walk)), c.magic, true)
	}
}

func TestOppositePairs(t *testing.T) {
	cases := []struct {
		board impl.Board
		l     impl.Leaper
		walk  []int
		pairs int
		even  bool
	}{
		{plain(3, 3), knight, ring, 4, true},
		{plain(3, 3), knight, ring[:7], 0, false},
		{plain(3, 3), knight, ring[:6], 0, true},
		{plain(3, 3), knight, ring[:2], 0, true},
		{plain(4, 3), knight, ring[:1], 0, false},
		{plain(3, 2), knight, []int{0, 5}, 1, true},
		{plain(3, 2), knight, []int{2, 3}, 1, true},
		{plain(2, 3), knight, []int{4, 1}, 1, true},
		{plain(4, 2), single, []int{0, 1, 2, 3, 7, 6, 5, 4}, 4, true},
		{plain(4, 2), single, []int{0, 4, 5, 1, 2, 6, 7, 3}, 0, true},
		{plain(8, 1), single, up(0, 8), 0, true},
		{plain(8, 1), single, up(3, 2), 1, true},
		{plain(8, 1), single, up(2, 4), 0, true},
		{plain(5, 2), single, []int{1, 2, 7, 8}, 0, true},
		{plain(4, 2), single, []int{1, 2, 6, 5}, 2, true},
		{holed(4, 2, 0, 3), single, []int{1, 2, 6, 5}, 2, true},
		{plain(8, 8), single, along(), 0, true},
	}
	for _, c := range cases {
		wants(t, named("OppositePairs", c.walk...), results(impl.OppositePairs(c.board, c.l, c.walk)), c.pairs, c.even)
	}
}

func TestStepsOfWalks(t *testing.T) {
	cases := []struct {
		board impl.Board
		l     impl.Leaper
		walk  []int
		steps []int
	}{
		{plain(3, 3), knight, ring, []int{7, 1, 4, 5, 0, 6, 3}},
		{plain(3, 3), knight, backwards(ring), []int{4, 1, 7, 2, 3, 6, 0}},
		{plain(2, 2), single, []int{0, 1, 3, 2}, []int{3, 2, 0}},
		{plain(2, 2), single, []int{3, 1, 0, 2}, []int{1, 0, 2}},
		{holed(3, 3, 1, 4, 7), impl.Leaper{A: 2, B: 2}, []int{6, 2}, []int{2}},
		{plain(8, 8), impl.Leaper{A: 5, B: 5}, []int{0, 45}, []int{3}},
		{plain(8, 8), impl.Leaper{A: 3, B: 4}, []int{0, 28}, []int{7}},
		{plain(8, 8), knight, []int{36}, nil},
	}
	for _, c := range cases {
		wants(t, named("StepsOfWalk", c.walk...), results(impl.StepsOfWalk(c.board, c.l, c.walk)), c.steps, true)
		wants(t, named("WalkOfSteps", c.steps...), results(impl.WalkOfSteps(c.board, c.l, c.walk[0], c.steps)), c.walk, true)
	}
	steps, ok := impl.StepsOfWalk(plain(8, 8), single, along())
	wants(t, "StepsOfWalk of 64 cells", results(len(steps), ok), 63, true)
	wants(t, "WalkOfSteps of 63 steps", results(impl.WalkOfSteps(plain(8, 8), single, 0, steps)), along(), true)
	wants(t, "WalkOfSteps of 64 steps", results(impl.WalkOfSteps(plain(8, 8), single, 0, append(steps, 1))), []int(nil), false)
}

func TestStepsThatMakeNoWalk(t *testing.T) {
	cases := []struct {
		what  string
		board impl.Board
		l     impl.Leaper
		start int
		steps []int
	}{
		{"beyond the end of a row", plain(4, 2), single, 3, []int{3}},
		{"before the beginning of a row", plain(4, 2), single, 4, []int{0}},
		{"below the first row", plain(4, 2), single, 0, []int{1}},
		{"above the last row", plain(4, 2), single, 4, []int{2}},
		{"to a hole", holed(4, 2, 1), single, 0, []int{3}},
		{"over a hole", holed(4, 2, 1), single, 0, []int{3, 3}},
		{"out and in again", plain(4, 2), single, 0, []int{0, 3}},
		{"back again", plain(4, 2), single, 0, []int{3, 0}},
		{"around", plain(4, 2), single, 0, []int{3, 2, 0, 1}},
		{"by a step that is none of four", plain(4, 2), single, 0, []int{4}},
		{"by a step that is none of eight", plain(4, 2), knight, 0, []int{8}},
		{"by a step before the first one", plain(4, 2), single, 0, []int{-1}},
		{"from a hole", holed(4, 2, 1), single, 1, nil},
		{"from no cell", plain(4, 2), single, 8, nil},
		{"from no cell to one", plain(4, 2), single, -1, []int{3}},
	}
	for _, c := range cases {
		wants(t, "WalkOfSteps "+c.what, results(impl.WalkOfSteps(c.board, c.l, c.start, c.steps)), []int(nil), false)
	}
}

// Holes beside a walk change nothing, and holes on it make it none.
func TestBlocksOnBoardsWithHoles(t *testing.T) {
	walk := []int{0, 6, 8, 1, 10, 4, 2, 9}
	for _, b := range []impl.Board{plain(4, 3), holed(4, 3, 3), holed(4, 3, 3, 5, 7, 11)} {
		wants(t, "ReverseWalk", results(impl.ReverseWalk(b, knight, walk)), backwards(walk), true)
		wants(t, "TailTurns", results(impl.TailTurns(b, knight, walk)), []int{1}, true)
		wants(t, "CloseByTurns", results(impl.CloseByTurns(b, knight, walk, 0)), walk, true)
		wants(t, "RowSumsOf", results(impl.RowSumsOf(b, knight, walk)), []int{12, 8, 16}, true)
		wants(t, "ColumnSumsOf", results(impl.ColumnSumsOf(b, knight, walk)), []int{10, 12, 14, 0}, true)
		wants(t, "StepsOfWalk", results(impl.StepsOfWalk(b, knight, walk)), []int{7, 1, 4, 5, 0, 6, 3}, true)
		wants(t, "OppositePairs", results(impl.OppositePairs(b, knight, walk)), 0, true)
	}
	wants(t, "ReverseWalk over a hole", results(impl.ReverseWalk(holed(4, 3, 4), knight, walk)), []int(nil), false)
	wants(t, "RowSumsOf over a hole", results(impl.RowSumsOf(holed(4, 3, 4), knight, walk)), []int(nil), false)
}
