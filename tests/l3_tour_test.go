package tests

import (
	"slices"
	"testing"

	"loop.example/g01239/impl"
)

// single goes from each cell to those at its sides.
var single = impl.Leaper{A: 0, B: 1}

// ring is the closed tour of the knight on 3 by 3 cells without the middle.
var ring = []int{0, 5, 6, 1, 8, 3, 2, 7}

func TestTourExample(t *testing.T) {
	wants(t, "CountTours", results(impl.CountTours(plain(4, 3), knight)), 16, true)
	wants(t, "CountClosedTours", results(impl.CountClosedTours(plain(4, 3), knight)), 0, true)
	wants(t, "FirstClosedTour", results(impl.FirstClosedTour(plain(4, 3), knight)), []int(nil), false)
	b := holed(3, 3, 4)
	all := [][]int{{0, 5}, {0, 7}, {1, 6}, {1, 8}, {2, 3}, {2, 7}, {3, 8}, {5, 6}}
	wants(t, "FirstClosedTour of the ring", results(impl.FirstClosedTour(b, knight)), ring, true)
	wants(t, "CountClosedTours of the ring", results(impl.CountClosedTours(b, knight)), 1, true)
	wants(t, "CountTours of the ring", results(impl.CountTours(b, knight)), 16, true)
	wants(t, "ForcedLeaps of the ring", results(impl.ForcedLeaps(b, knight)), all, true)
	wants(t, "LongestWalk of the ring", results(impl.LongestWalk(b, knight)), ring, true)
	wants(t, "ColoursForbid", results(impl.ColoursForbid(plain(5, 5), knight)), false, true, true)
	wants(t, "the limits", results(impl.MaxTour, impl.MaxLongest), 20, 12)
}

func TestToursOfOneCell(t *testing.T) {
	for _, b := range []impl.Board{plain(1, 1), onlyCell(3, 2, 5), onlyCell(8, 8, 0), onlyCell(8, 8, 63)} {
		cell := there(b)[0]
		numbers := make([]int, b.Wide*b.High)
		numbers[cell] = 1
		for _, l := range allLeapers() {
			tour := []int{cell}
			wants(t, "IsWalk", results(impl.IsWalk(b, l, tour)), true, true)
			wants(t, "IsWalk of it twice", results(impl.IsWalk(b, l, []int{cell, cell})), false, true)
			wants(t, "IsTour", results(impl.IsTour(b, l, tour)), true, true)
			wants(t, "IsClosedTour", results(impl.IsClosedTour(b, l, tour)), false, true)
			wants(t, "FirstTour", results(impl.FirstTour(b, l)), tour, true)
			wants(t, "FirstTourFrom", results(impl.FirstTourFrom(b, l, cell)), tour, true)
			wants(t, "CountToursFrom", results(impl.CountToursFrom(b, l, cell)), 1, true)
			wants(t, "CountTours", results(impl.CountTours(b, l)), 1, true)
			wants(t, "FirstClosedTour", results(impl.FirstClosedTour(b, l)), []int(nil), false)
			wants(t, "CountClosedTours", results(impl.CountClosedTours(b, l)), 0, true)
			wants(t, "FewestOnward", results(impl.FewestOnward(b, l, cell)), tour, true)
			wants(t, "DeadEnds", results(impl.DeadEnds(b, l)), tour, true)
			wants(t, "ForcedLeaps", results(impl.ForcedLeaps(b, l)), [][]int(nil), true)
			wants(t, "NumbersOfWalk", results(impl.NumbersOfWalk(b, l, tour)), numbers, true)
			wants(t, "WalkOfNumbers", results(impl.WalkOfNumbers(b, l, numbers)), tour, true)
			wants(t, "SpinTour", results(impl.SpinTour(b, l, tour, 0)), []int(nil), false)
			wants(t, "LongestWalk", results(impl.LongestWalk(b, l)), tour, true)
		}
	}
}

// A leap there and back comes again to the first cell, but it is no closed tour.
func TestToursOfTwoCells(t *testing.T) {
	cases := []struct {
		board impl.Board
		tour  []int
	}{
		{holed(3, 2, 1, 2, 3, 4), []int{0, 5}},
		{holed(3, 3, 1, 2, 3, 4, 5, 6, 8), []int{0, 7}},
	}
	for _, c := range cases {
		first, other := c.tour[0], c.tour[1]
		wants(t, "CountTours", results(impl.CountTours(c.board, knight)), 2, true)
		wants(t, "CountToursFrom the other", results(impl.CountToursFrom(c.board, knight, other)), 1, true)
		wants(t, "FirstTour", results(impl.FirstTour(c.board, knight)), c.tour, true)
		wants(t, "FirstTourFrom the other", results(impl.FirstTourFrom(c.board, knight, other)), []int{other, first}, true)
		wants(t, "IsTour", results(impl.IsTour(c.board, knight, c.tour)), true, true)
		wants(t, "IsClosedTour", results(impl.IsClosedTour(c.board, knight, c.tour)), false, true)
		wants(t, "SpinTour", results(impl.SpinTour(c.board, knight, c.tour, 1)), []int(nil), false)
		wants(t, "DeadEnds", results(impl.DeadEnds(c.board, knight)), c.tour, true)
		wants(t, "ForcedLeaps", results(impl.ForcedLeaps(c.board, knight)), [][]int(nil), true)
		hasNoClosedTours(t, c.board, knight)
	}
}

func hasNoClosedTours(t *testing.T, b impl.Board, l impl.Leaper) {
	t.Helper()
	wants(t, "FirstClosedTour", results(impl.FirstClosedTour(b, l)), []int(nil), false)
	wants(t, "CountClosedTours", results(impl.CountClosedTours(b, l)), 0, true)
}

// On each of these boards there is no tour at all, from whichever cell.
func TestBoardsWithoutTours(t *testing.T) {
	cases := []struct {
		board impl.Board
		l     impl.Leaper
	}{
		{plain(3, 3), knight}, // the middle has no leaps
		{plain(2, 2), knight}, // no cell has
		{plain(4, 4), knight}, // whole, with as many cells of both colours
		{plain(5, 3), knight},
		{holed(5, 3, 7), knight},
		{plain(5, 4), impl.Leaper{A: 1, B: 1}},
		{plain(8, 2), impl.Leaper{A: 5, B: 5}},
		{holed(3, 1, 1), single},
		{holed(3, 3, 0, 2, 6, 8), single}, // a cross
		{holed(3, 3, 1), single},
		{holed(8, 8, up(2, 60)...), single},
	}
	for _, c := range cases {
		wants(t, "FirstTour", results(impl.FirstTour(c.board, c.l)), []int(nil), false)
		wants(t, "CountTours", results(impl.CountTours(c.board, c.l)), 0, true)
		for _, cell := range there(c.board) {
			wants(t, named("FirstTourFrom", cell), results(impl.FirstTourFrom(c.board, c.l, cell)), []int(nil), false)
			wants(t, named("CountToursFrom", cell), results(impl.CountToursFrom(c.board, c.l, cell)), 0, true)
		}
		hasNoClosedTours(t, c.board, c.l)
	}
}

func TestBoardsWithToursThatAreNotClosed(t *testing.T) {
	cases := []struct {
		board impl.Board
		l     impl.Leaper
		tours int
		first []int
	}{
		{plain(4, 3), knight, 16, []int{0, 6, 8, 1, 7, 9, 2, 4, 10, 3, 5, 11}},
		{plain(3, 4), knight, 16, []int{0, 7, 2, 3, 10, 5, 6, 1, 8, 9, 4, 11}},
		{plain(5, 4), knight, 164, []int{0, 7, 4, 13, 16, 5, 2, 9, 18, 11, 8, 1, 10, 17, 14, 3, 6, 15, 12, 19}},
		{plain(4, 5), knight, 164, []int{0, 6, 8, 1, 7, 14, 16, 9, 15, 17, 10, 3, 5, 12, 18, 11, 2, 4, 13, 19}},
		{plain(8, 1), single, 2, []int{0, 1, 2, 3, 4, 5, 6, 7}},
		{plain(1, 3), single, 2, []int{0, 1, 2}},
		{plain(3, 3), single, 40, []int{0, 1, 2, 5, 4, 3, 6, 7, 8}},
		{holed(3, 2, 2), single, 4, []int{1, 0, 3, 4, 5}}, // the first cell begins none
		{holed(5, 1, 1, 3), impl.Leaper{A: 0, B: 2}, 2, []int{0, 2, 4}},
	}
	for _, c := range cases {
		wants(t, "CountTours", results(impl.CountTours(c.board, c.l)), c.tours, true)
		wants(t, "FirstTour", results(impl.FirstTour(c.board, c.l)), c.first, true)
		wants(t, "IsTour", results(impl.IsTour(c.board, c.l, c.first)), true, true)
		wants(t, "IsClosedTour", results(impl.IsClosedTour(c.board, c.l, c.first)), false, true)
		hasNoClosedTours(t, c.board, c.l)
	}
}

func TestBoardsWithClosedTours(t *testing.T) {
	odd := []int{1, 3, 5, 6, 7, 8, 9, 11, 13}
	cases := []struct {
		board  impl.Board
		l      impl.Leaper
		tours  int
		closed int
		first  []int
	}{
		{plain(2, 2), single, 8, 1, []int{0, 1, 3, 2}},
		{plain(3, 2), single, 16, 1, []int{0, 1, 2, 5, 4, 3}},
		{holed(3, 3, 4), single, 16, 1, []int{0, 1, 2, 5, 8, 7, 6, 3}},
		{plain(4, 4), single, 552, 6, []int{0, 1, 2, 3, 7, 6, 5, 9, 10, 11, 15, 14, 13, 12, 8, 4}},
		{plain(5, 4), single, 2012, 14, []int{0, 1, 2, 3, 4, 9, 8, 7, 6, 11, 12, 13, 14, 19, 18, 17, 16, 15, 10, 5}},
		{holed(3, 3, 0, 2, 4, 6, 8), impl.Leaper{A: 1, B: 1}, 8, 1, []int{1, 3, 7, 5}},
		{holed(5, 3, odd...), impl.Leaper{A: 0, B: 2}, 16, 1, []int{0, 2, 4, 14, 12, 10}},
	}
	for _, c := range cases {
		wants(t, "CountTours", results(impl.CountTours(c.board, c.l)), c.tours, true)
		wants(t, "CountClosedTours", results(impl.CountClosedTours(c.board, c.l)), c.closed, true)
		wants(t, "FirstClosedTour", results(impl.FirstClosedTour(c.board, c.l)), c.first, true)
	}
}

func TestListsThatAreWalksAndTours(t *testing.T) {
	b := holed(3, 3, 4)
	cases := []struct {
		what   string
		path   []int
		walk   bool
		tour   bool
		closed bool
	}{
		{"no cell", nil, false, false, false},
		{"an empty list", []int{}, false, false, false},
		{"a cell", []int{8}, true, false, false},
		{"a hole", []int{4}, false, false, false},
		{"a leap", []int{7, 0}, true, false, false},
		{"no leap", []int{0, 1}, false, false, false},
		{"a leap there and back", []int{7, 0, 7}, false, false, false},
		{"all but one cell", ring[:7], true, false, false},
		{"all cells", ring, true, true, true},
		{"all cells in no order", []int{0, 1, 2, 3, 5, 6, 7, 8}, false, false, false},
		{"all cells and the first one again", append(slices.Clone(ring), 0), false, false, false},
		{"all cells twice", slices.Repeat(ring, 2), false, false, false},
		{"as many cells, one of them twice", []int{0, 5, 6, 1, 8, 3, 2, 3}, false, false, false},
		{"a path of 64 cells", slices.Repeat(ring, 8), false, false, false},
		{"65 cells", append(slices.Repeat(ring, 8), 0), false, false, false},
		{"very many cells", slices.Repeat(ring, 1000), false, false, false},
	}
	for _, c := range cases {
		wants(t, "IsWalk of "+c.what, results(impl.IsWalk(b, knight, c.path)), c.walk, true)
		wants(t, "IsTour of "+c.what, results(impl.IsTour(b, knight, c.path)), c.tour, true)
		wants(t, "IsClosedTour of "+c.what, results(impl.IsClosedTour(b, knight, c.path)), c.closed, true)
	}
	wants(t, "IsTour with the middle there", results(impl.IsTour(plain(3, 3), knight, ring)), false, true)
	wants(t, "IsClosedTour with the middle there", results(impl.IsClosedTour(plain(3, 3), knight, ring)), false, true)
	wants(t, "IsWalk with the middle there", results(impl.IsWalk(plain(3, 3), knight, ring)), true, true)
}

// spins has a closed tour told from each cell, in both directions.
func spins(tour []int) [][]int {
	var all [][]int
	for k := range tour {
		forth := slices.Concat(tour[k:], tour[:k])
		back := slices.Clone(forth)
		slices.Reverse(back)
		all = append(all, forth, back)
	}
	return all
}

// along goes on 8 by 8 cells along the first row, to and fro through the others, and back along the first column.
func along() []int {
	tour := up(0, 8)
	for y := 1; y < 8; y++ {
		row := up(y*8+1, 7)
		if y%2 == 1 {
			slices.Reverse(row)
		}
		tour = append(tour, row...)
	}
	for y := 7; y > 0; y-- {
		tour = append(tour, y*8)
	}
	return tour
}

// A closed tour may be told from whichever cell, in whichever direction, also one of more cells than tours are looked for on.
func TestClosedToursInEachWay(t *testing.T) {
	cases := []struct {
		board impl.Board
		tour  []int
	}{
		{plain(2, 2), []int{0, 1, 3, 2}},
		{holed(3, 3, 4), []int{0, 1, 2, 5, 8, 7, 6, 3}},
		{plain(8, 8), along()},
	}
	for _, c := range cases {
		for _, path := range spins(c.tour) {
			wants(t, "IsClosedTour", results(impl.IsClosedTour(c.board, single, path)), true, true)
			for k := range path {
				wants(t, named("SpinTour", k), results(impl.SpinTour(c.board, single, path, k)), slices.Concat(path[k:], path[:k]), true)
			}
			wants(t, "SpinTour behind the last cell", results(impl.SpinTour(c.board, single, path, len(path))), []int(nil), false)
			wants(t, "SpinTour before the first cell", results(impl.SpinTour(c.board, single, path, -1)), []int(nil), false)
		}
	}
}

func TestFewestOnward(t *testing.T) {
	wants(t, "FewestOnward of the ring", results(impl.FewestOnward(holed(3, 3, 4), knight, 0)), ring, true)
	wants(t, "FewestOnward of the middle", results(impl.FewestOnward(plain(3, 3), knight, 4)), []int{4}, true)
	// Two leaps each lead on from 1 and from 3, and one each from 4 and from 6: the lesser cell is taken.
	wants(t, "FewestOnward of steps", results(impl.FewestOnward(plain(3, 3), single, 0)), []int{0, 1, 2, 5, 8, 7, 4, 3, 6}, true)
	// No leap leads on from the first cell, which are the fewest, so that the walk ends there.
	wants(t, "FewestOnward to a dead end", results(impl.FewestOnward(plain(8, 1), single, 1)), []int{1, 0}, true)
	wants(t, "FewestOnward of a row", results(impl.FewestOnward(plain(8, 1), single, 7)), []int{7, 6, 5, 4, 3, 2, 1, 0}, true)
	walk, ok := impl.FewestOnward(plain(8, 8), knight, 0)
	if tour, fine := impl.IsTour(plain(8, 8), knight, walk); !ok || !tour || !fine {
		t.Error("FewestOnward makes no tour of 64 cells:", walk)
	}
}

func TestColoursForbid(t *testing.T) {
	cases := []struct {
		board  impl.Board
		tour   bool
		closed bool
	}{
		{plain(2, 1), false, false},
		{plain(3, 1), false, true},
		{plain(8, 8), false, false},
		{plain(7, 7), false, true},
		{holed(7, 7, 0), false, false},
		{holed(7, 7, 0, 2), false, true}, // one more of the other colour
		{holed(7, 7, 0, 2, 4), true, true},
		{holed(7, 7, 1), true, true},
		{holed(2, 2, 0, 3), true, true},
		{holed(2, 2, 1, 2), true, true},
		{holed(8, 2, 0, 1), false, false},
		{holed(8, 2, 0, 9), true, true},
		{holed(8, 2, 0, 8), false, false},
	}
	for _, c := range cases {
		for _, l := range allLeapers() {
			if (l.A+l.B)%2 == 1 {
				wants(t, "ColoursForbid", results(impl.ColoursForbid(c.board, l)), c.tour, c.closed, true)
			} else {
				wants(t, "ColoursForbid", results(impl.ColoursForbid(c.board, l)), false, false, false)
			}
		}
	}
}

func TestDeadEndsAndForcedLeaps(t *testing.T) {
	none := [][]int(nil)
	cases := []struct {
		board  impl.Board
		l      impl.Leaper
		ends   []int
		forced [][]int
	}{
		{plain(3, 3), knight, []int{4}, [][]int{{0, 5}, {0, 7}, {1, 6}, {1, 8}, {2, 3}, {2, 7}, {3, 8}, {5, 6}}},
		{plain(5, 4), knight, nil, [][]int{{0, 7}, {0, 11}, {4, 7}, {4, 13}, {6, 15}, {8, 19}, {12, 15}, {12, 19}}},
		{plain(6, 2), knight, []int{0, 1, 4, 5, 6, 7, 10, 11}, [][]int{{0, 8}, {1, 9}, {2, 6}, {2, 10}, {3, 7}, {3, 11}, {4, 8}, {5, 9}}},
		{holed(3, 3, 0, 2, 6, 8), single, []int{1, 3, 5, 7}, none}, // four leaps lead from the middle
		{holed(3, 3, 0, 2, 8), single, []int{1, 5}, [][]int{{3, 4}, {3, 6}, {4, 7}, {6, 7}}},
		{plain(3, 1), single, []int{0, 2}, [][]int{{0, 1}, {1, 2}}},
		{plain(2, 1), single, []int{0, 1}, none},
		{plain(2, 2), knight, []int{0, 1, 2, 3}, none},
		{holed(8, 8, append(up(0, 42), up(44, 20)...)...), single, []int{42, 43}, none},
	}
	for _, c := range cases {
		wants(t, "DeadEnds", results(impl.DeadEnds(c.board, c.l)), c.ends, true)
		wants(t, "ForcedLeaps", results(impl.ForcedLeaps(c.board, c.l)), c.forced, true)
	}
}

func TestNumbersOfWalk(t *testing.T) {
	cases := []struct {
		board   impl.Board
		walk    []int
		numbers []int
	}{
		{holed(3, 3, 4), ring, []int{1, 4, 7, 6, 0, 2, 3, 8, 5}},
		{plain(3, 3), ring, []int{1, 4, 7, 6, 0, 2, 3, 8, 5}},
		{plain(3, 3), []int{4}, []int{0, 0, 0, 0, 1, 0, 0, 0, 0}},
		{plain(3, 3), []int{7, 0}, []int{2, 0, 0, 0, 0, 0, 0, 1, 0}},
		{plain(4, 3), []int{0, 6, 8, 1, 7, 9, 2, 4, 10, 3, 5, 11}, []int{1, 4, 7, 10, 8, 11, 2, 5, 3, 6, 9, 12}},
	}
	for _, c := range cases {
		wants(t, "NumbersOfWalk", results(impl.NumbersOfWalk(c.board, knight, c.walk)), c.numbers, true)
		wants(t, "WalkOfNumbers", results(impl.WalkOfNumbers(c.board, knight, c.numbers)), c.walk, true)
		wants(t, "WalkOfNumbers by another leaper", results(impl.WalkOfNumbers(c.board, impl.Leaper{A: 5, B: 5}, c.numbers)), onlyOne(c.walk), len(c.walk) == 1)
	}
}

// onlyOne has a walk of one cell, which is one of each leaper, and nil for others.
func onlyOne(walk []int) []int {
	if len(walk) == 1 {
		return walk
	}
	return nil
}

func TestLongestWalk(t *testing.T) {
	cases := []struct {
		board impl.Board
		l     impl.Leaper
		walk  []int
	}{
		{plain(3, 3), knight, ring},
		{plain(4, 3), knight, []int{0, 6, 8, 1, 7, 9, 2, 4, 10, 3, 5, 11}},
		{plain(6, 2), knight, []int{0, 8, 4}},
		{plain(2, 2), knight, []int{0}},
		{holed(3, 3, 1), single, []int{0, 3, 4, 5, 8, 7, 6}},
		{holed(3, 3, 0, 2, 6, 8), single, []int{1, 4, 3}},
		{holed(3, 2, 2), single, []int{1, 0, 3, 4, 5}},
		{holed(5, 4, 1, 3, 5, 7, 9, 11, 13, 15, 17, 19), impl.Leaper{A: 1, B: 1}, []int{0, 6, 2, 8, 14, 18, 12, 16, 10}},
		{holed(8, 2, 0, 2, 8, 10), single, []int{3, 4, 5, 6, 7, 15, 14, 13, 12, 11}},
	}
	for _, c := range cases {
		wants(t, "LongestWalk", results(impl.LongestWalk(c.board, c.l)), c.walk, true)
	}
}
