package tests

import (
	"slices"
	"testing"

	"loop.example/g01239/impl"
)

var tourCalls = []call{
	{"IsWalk", "bl", func(in input) []any { return results(impl.IsWalk(in.board, in.leaper, in.path)) }},
	{"IsTour", "bl", func(in input) []any { return results(impl.IsTour(in.board, in.leaper, in.path)) }},
	{"IsClosedTour", "bl", func(in input) []any { return results(impl.IsClosedTour(in.board, in.leaper, in.path)) }},
	{"FirstTour", "blm", func(in input) []any { return results(impl.FirstTour(in.board, in.leaper)) }},
	{"FirstTourFrom", "blfm", func(in input) []any { return results(impl.FirstTourFrom(in.board, in.leaper, in.from)) }},
	{"CountToursFrom", "blfm", func(in input) []any { return results(impl.CountToursFrom(in.board, in.leaper, in.from)) }},
	{"CountTours", "blm", func(in input) []any { return results(impl.CountTours(in.board, in.leaper)) }},
	{"FirstClosedTour", "blm", func(in input) []any { return results(impl.FirstClosedTour(in.board, in.leaper)) }},
	{"CountClosedTours", "blm", func(in input) []any { return results(impl.CountClosedTours(in.board, in.leaper)) }},
	{"FewestOnward", "blf", func(in input) []any { return results(impl.FewestOnward(in.board, in.leaper, in.from)) }},
	{"ColoursForbid", "ble", func(in input) []any { return results(impl.ColoursForbid(in.board, in.leaper)) }},
	{"DeadEnds", "bl", func(in input) []any { return results(impl.DeadEnds(in.board, in.leaper)) }},
	{"ForcedLeaps", "bl", func(in input) []any { return results(impl.ForcedLeaps(in.board, in.leaper)) }},
	{"NumbersOfWalk", "blpa", func(in input) []any { return results(impl.NumbersOfWalk(in.board, in.leaper, in.path)) }},
	{"WalkOfNumbers", "blu", func(in input) []any { return results(impl.WalkOfNumbers(in.board, in.leaper, in.numbers)) }},
	{"SpinTour", "blpaci", func(in input) []any { return results(impl.SpinTour(in.board, in.leaper, in.path, in.index)) }},
	{"LongestWalk", "blx", func(in input) []any { return results(impl.LongestWalk(in.board, in.leaper)) }},
}

// keeping is the board of w by h cells of which the first ones are there.
func keeping(w int, h int, cells int) impl.Board {
	b := plain(w, h)
	for cell := cells; cell < w*h; cell++ {
		b.Holes = append(b.Holes, cell)
	}
	return b
}

// addBadTours adds what chapter 3 forbids: lists that are no walks (a) and no closed tours (c), numbers of no walk (u), indices (i), boards with too many cells for tours (m) and for the longest walk (x), and leapers that change no colours (e).
func addBadTours(add func(letter string, change func(in *input))) {
	round := goodInput().path
	noWalks := [][]int{nil, {}, {0, 0}, {0, 1}, {0, 6, 0}, {0, 9, 2, 9}, {0, 9, 0, 6}, {0, 6, 8, 10}, append(slices.Clone(round), 0), slices.Repeat(round, 8), slices.Repeat(round, 9)}
	for _, path := range noWalks {
		add("a", func(in *input) { in.path, in.index = path, 0 })
	}
	for _, path := range [][]int{{0}, {0, 9}, {0, 9, 2}, round[:7], round[1:]} {
		add("c", func(in *input) { in.path, in.index = path, 0 })
	}
	for _, k := range append([]int{8, 9, 12}, extremes...) {
		add("i", func(in *input) { in.index = k })
	}
	for _, numbers := range noNumbers() {
		add("u", func(in *input) { in.numbers = numbers })
	}
	for _, b := range []impl.Board{plain(7, 3), plain(3, 7), keeping(8, 8, 21), keeping(5, 5, 21), plain(8, 8), holed(6, 4, 21, 22, 23)} {
		for _, l := range []impl.Leaper{knight, {A: 0, B: 1}, {A: 5, B: 5}} {
			add("m", func(in *input) { in.board, in.leaper = b, l })
		}
	}
	for _, b := range []impl.Board{plain(7, 3), plain(8, 8), keeping(8, 8, 13), keeping(7, 2, 13), holed(4, 4, 1, 2, 3)} {
		for _, l := range []impl.Leaper{knight, {A: 0, B: 1}, {A: 5, B: 5}} {
			add("x", func(in *input) { in.board, in.leaper = b, l })
		}
	}
	for _, l := range allLeapers() {
		if (l.A+l.B)%2 == 0 {
			add("e", func(in *input) { in.leaper = l })
		}
	}
}

// noNumbers are lists that no walk on the board of goodInput has as its numbers: there are some with 1, 2 and 3 for the cells 2, 9 and 0.
func noNumbers() [][]int {
	good := goodInput().numbers
	lists := [][]int{nil, {}, {1}, good[:11], append(slices.Clone(good), 0), slices.Repeat([]int{1}, 12), up(1, 12), make([]int, 12), make([]int, 13), make([]int, 1000)}
	with := func(cell int, numbers ...int) {
		for _, n := range append(numbers, extremes...) {
			list := slices.Clone(good)
			list[cell] = n
			lists = append(lists, list)
		}
	}
	with(4, 1, 2, 3, 4, 5, 12, 13)
	with(3, 1, 3, 4) // a hole
	with(11, 1, 3, 4, 5)
	with(0, 1, 2, 4)
	with(9, 0, 1, 3)
	with(2, 0, 2, 3, 4)
	return lists
}

func TestNumbersOfAnySizeAreInNoWalk(t *testing.T) {
	b := holed(4, 3, 3, 5, 7, 11)
	for _, n := range append([]int{3, 5, 7, 11, 12}, extremes...) {
		for _, list := range [][]int{{n}, {0, n}, {n, 9}, {0, n, 2}, {0, 6, 8, 1, 10, 4, 2, n}, {n, 6, 8, 1, 10, 4, 2, 9}} {
			wants(t, named("IsWalk", list...), results(impl.IsWalk(b, knight, list)), false, true)
			wants(t, named("IsTour", list...), results(impl.IsTour(b, knight, list)), false, true)
			wants(t, named("IsClosedTour", list...), results(impl.IsClosedTour(b, knight, list)), false, true)
		}
	}
}

// A cell that is not there makes a call fail also where there would be no tours from any other one.
func TestCellsFromWhichToursAreAsked(t *testing.T) {
	for _, cell := range append([]int{2, 9}, extremes...) {
		b := holed(3, 3, 2)
		wants(t, named("FirstTourFrom", cell), results(impl.FirstTourFrom(b, knight, cell)), []int(nil), false)
		wants(t, named("CountToursFrom", cell), results(impl.CountToursFrom(b, knight, cell)), 0, false)
		wants(t, named("FewestOnward", cell), results(impl.FewestOnward(b, knight, cell)), []int(nil), false)
	}
}

// On a board of 20 cells tours are looked for, on one of 21 cells they are not; what looks for none has no such limit.
func TestMostCellsForTours(t *testing.T) {
	rows := slices.Concat(up(0, 8), up(8, 8), up(16, 8))
	slices.Reverse(rows[8:16])
	wants(t, "FirstTour of 20 cells", results(impl.FirstTour(keeping(8, 3, 20), single)), rows[:20], true)
	wants(t, "FirstTour of 21 cells", results(impl.FirstTour(keeping(8, 3, 21), single)), []int(nil), false)
	wants(t, "FirstTourFrom of 20 cells", results(impl.FirstTourFrom(keeping(8, 8, 20), single, 0)), rows[:20], true)
	wants(t, "FirstTourFrom of 21 cells", results(impl.FirstTourFrom(keeping(8, 8, 21), single, 0)), []int(nil), false)
	wants(t, "CountTours of 20 cells", results(impl.CountTours(plain(5, 4), single)), 2012, true)
	wants(t, "CountClosedTours of 20 cells", results(impl.CountClosedTours(plain(4, 5), single)), 14, true)
	wants(t, "IsTour of 21 cells", results(impl.IsTour(keeping(8, 3, 21), single, rows[:21])), true, true)
	wants(t, "IsTour of 24 cells", results(impl.IsTour(plain(8, 3), single, rows)), true, true)
}

// A board of 20 cells with more tours than most, on which a search has to come to an end.
func TestManyTours(t *testing.T) {
	cells := []int{11, 13, 17, 19, 21, 23, 26, 27, 28, 29, 32, 34, 36, 38, 42, 43, 44, 49, 53, 59}
	b := impl.Board{Wide: 8, High: 8, Holes: slices.DeleteFunc(up(0, 64), func(cell int) bool { return slices.Contains(cells, cell) })}
	wants(t, "CountTours", results(impl.CountTours(b, knight)), 676560, true)
	wants(t, "CountClosedTours", results(impl.CountClosedTours(b, knight)), 6288, true)
	tours := 0
	for _, cell := range cells {
		n, ok := impl.CountToursFrom(b, knight, cell)
		if !ok {
			t.Error("no tours are counted from", cell)
		}
		tours += n
	}
	wants(t, "CountToursFrom all cells", results(tours), 676560)
}

func TestMostCellsForLongestWalks(t *testing.T) {
	wants(t, "LongestWalk of 12 cells", results(impl.LongestWalk(keeping(8, 2, 12), single)), []int{0, 8, 9, 1, 2, 10, 11, 3, 4, 5, 6, 7}, true)
	wants(t, "LongestWalk of 13 cells", results(impl.LongestWalk(keeping(8, 2, 13), single)), []int(nil), false)
}

// up has so many numbers from first on.
func up(first int, count int) []int {
	var list []int
	for i := range count {
		list = append(list, first+i)
	}
	return list
}
