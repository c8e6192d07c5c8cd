package tests

import (
	"slices"
	"testing"

	"loop.example/g01239/impl"
)

var blockCalls = []call{
	{"ReverseWalk", "blpa", func(in input) []any { return results(impl.ReverseWalk(in.board, in.leaper, in.path)) }},
	{"TurnTail", "blpaK", func(in input) []any { return results(impl.TurnTail(in.board, in.leaper, in.path, in.index)) }},
	{"TailTurns", "blpa", func(in input) []any { return results(impl.TailTurns(in.board, in.leaper, in.path)) }},
	{"CloseByTurns", "blpaMN", func(in input) []any { return results(impl.CloseByTurns(in.board, in.leaper, in.path, in.most)) }},
	{"JoinClosed", "BlWUJ", func(in input) []any { return results(impl.JoinClosed(in.field, in.leaper, in.first, in.second)) }},
	{"CountJoins", "BlWU", func(in input) []any { return results(impl.CountJoins(in.field, in.leaper, in.first, in.second)) }},
	{"IsClosedWalk", "blpa", func(in input) []any { return results(impl.IsClosedWalk(in.board, in.leaper, in.path)) }},
	{"ChainWalks", "BlWC", func(in input) []any { return results(impl.ChainWalks(in.field, in.leaper, in.first, in.second)) }},
	{"PlaceWalk", "whBDX", func(in input) []any {
		return results(impl.PlaceWalk(in.wide, in.high, in.path, in.field, in.x, in.y))
	}},
	{"RowSumsOf", "blpa", func(in input) []any { return results(impl.RowSumsOf(in.board, in.leaper, in.path)) }},
	{"ColumnSumsOf", "blpa", func(in input) []any { return results(impl.ColumnSumsOf(in.board, in.leaper, in.path)) }},
	{"IsHalfMagic", "blpa", func(in input) []any { return results(impl.IsHalfMagic(in.board, in.leaper, in.path)) }},
	{"OppositePairs", "blpaO", func(in input) []any { return results(impl.OppositePairs(in.board, in.leaper, in.path)) }},
	{"StepsOfWalk", "blpa", func(in input) []any { return results(impl.StepsOfWalk(in.board, in.leaper, in.path)) }},
	{"WalkOfSteps", "blfS", func(in input) []any { return results(impl.WalkOfSteps(in.board, in.leaper, in.from, in.steps)) }},
}

// addBadBlocks adds what chapter 6 forbids: for the board and the path where tails are not turned (K), numbers of turns (M), walks that turns do not close (N), walks of an odd number of cells (O), and steps (S); for two walks their board (B), walks that are none or have cells in common (W), that are not closed (U), that cannot be joined (J), and that cannot be chained (C); lists that cannot be placed (D), and places (X).
func addBadBlocks(add func(letter string, change func(in *input))) {
	round := goodInput().path
	for _, k := range append([]int{0, 2, 3, 4, 5, 6, 8, 9, 12}, extremes...) {
		add("K", func(in *input) { in.index = k })
	}
	for _, most := range append([]int{4, 5, -2}, extremes...) {
		add("M", func(in *input) { in.most = most })
	}
	for n := 1; n < len(round); n++ {
		add("N", func(in *input) { in.path = round[:n] })
		if n%2 == 1 {
			add("O", func(in *input) { in.path = round[:n] })
			add("O", func(in *input) { in.path = round[n:] })
		}
	}
	for _, steps := range noSteps() {
		add("S", func(in *input) { in.steps = steps })
	}
	for _, b := range badBoards() {
		add("B", func(in *input) { in.field = b })
		add("B", func(in *input) { in.field, in.first, in.second = b, nil, nil })
		add("B", func(in *input) { in.field, in.first, in.second, in.path = b, []int{0}, []int{1}, []int{0} })
	}
	addBadPairs(add)
	for _, list := range noPlaced() {
		add("D", func(in *input) { in.path = list })
	}
	for _, n := range append([]int{2, 3, 4, 5, 1 << 59, 1 << 60, 1 << 61, 1 << 62}, extremes...) { // 1 may be right
		add("X", func(in *input) { in.x = n })
		add("X", func(in *input) { in.y = n })
		add("X", func(in *input) { in.x, in.y = n, n })
	}
}

// addBadPairs adds pairs of walks for the field of goodInput that do not go together.
func addBadPairs(add func(letter string, change func(in *input))) {
	p, q := goodInput().first, goodInput().second
	noWalks := [][]int{nil, {}, {0, 0}, {0, 2}, {0, 7, 0}, {4}, {14}, {0, 11, 4}, {20}, {0, 7, 18, 12}, append(slices.Clone(p), 0), slices.Repeat(p, 16), slices.Repeat(p, 17)}
	for _, n := range extremes {
		noWalks = append(noWalks, []int{n}, []int{0, n}, []int{0, 7, n, 11})
	}
	for _, list := range noWalks {
		add("W", func(in *input) { in.first = list })
		add("W", func(in *input) { in.second = list })
		add("W", func(in *input) { in.first, in.second = list, list })
	}
	for _, list := range append(spins(p), []int{0}, []int{11}, []int{7, 16}, []int{18, 1, 10}) {
		add("W", func(in *input) { in.second = list })
	}
	add("W", func(in *input) { in.first = q })
	for n := 1; n < len(p); n++ {
		add("U", func(in *input) { in.first = p[:n] })
		add("U", func(in *input) { in.second = q[:n] })
		add("U", func(in *input) { in.first, in.second = p[:n], q[:n] })
		add("U", func(in *input) { in.first = p[n:] })
		add("U", func(in *input) { in.second = q[n:] })
	}
	add("J", func(in *input) { in.first, in.second, in.field = []int{0, 6, 15, 9}, []int{1, 7, 14, 8}, plain(4, 4) })
	add("J", func(in *input) { in.first, in.second, in.field = p, []int{1, 8, 19, 12}, plain(5, 4) })
	add("C", func(in *input) { in.first = []int{0} })
	add("C", func(in *input) { in.first = []int{0, 11, 18, 7} })
	add("C", func(in *input) { in.second = []int{9, 12, 5} })
	add("C", func(in *input) { in.second = []int{1} })
	add("C", func(in *input) { in.first, in.second = q, p })
}

// noSteps are lists that lead the knight from 0 to no walk on the board of goodInput, which is a ring of 3 by 3 cells.
func noSteps() [][]int {
	lists := [][]int{{0}, {1}, {6}, {7, 0}, {7, 7}, {7, 1, 2}, {7, 1, 4, 5, 0, 6, 3, 2}, {8}, {7, 8}, slices.Repeat([]int{7, 0}, 31), slices.Repeat([]int{7, 0}, 32), make([]int, 63), make([]int, 64), make([]int, 1000)}
	for _, n := range extremes {
		lists = append(lists, []int{n}, []int{7, n}, []int{n, 1}, []int{7, n, 4})
	}
	return lists
}

// noPlaced are lists that are none of different cells of 4 by 3 cells, or do not fit where goodInput places them.
func noPlaced() [][]int {
	round := goodInput().path
	lists := [][]int{nil, {}, {0, 0}, {0, 6, 0}, {12}, {0, 12}, {3}, {0, 11}, append(slices.Clone(round), 0), slices.Repeat(round, 8), make([]int, 64), make([]int, 65), make([]int, 1000), up(0, 13)}
	for _, n := range extremes {
		lists = append(lists, []int{n}, []int{0, n}, []int{n, 6}, []int{0, n, 6})
	}
	return lists
}

// The walks that are told as lists have to be walks; IsWalk takes any list, but these do not.
func TestListsThatAreNoWalksAreNotClosed(t *testing.T) {
	b := goodInput().board
	for _, in := range slices.Concat(badInputs()["a"], badInputs()["p"]) {
		for _, l := range []impl.Leaper{knight, {A: 4, B: 5}, {A: 5, B: 5}} {
			if len(in.path) == 1 && slices.Contains(there(b), in.path[0]) {
				continue
			}
			wants(t, named("IsClosedWalk", in.path...), results(impl.IsClosedWalk(b, l, in.path)), false, false)
			wants(t, named("IsHalfMagic", in.path...), results(impl.IsHalfMagic(b, l, in.path)), false, false)
			wants(t, named("RowSumsOf", in.path...), results(impl.RowSumsOf(b, l, in.path)), []int(nil), false)
			wants(t, named("StepsOfWalk", in.path...), results(impl.StepsOfWalk(b, l, in.path)), []int(nil), false)
		}
	}
}

// Cells are placed by columns and rows of both boards, also if a number would be too great for an int.
func TestFarPlaces(t *testing.T) {
	for w := 1; w <= 8; w++ {
		b := plain(w, w)
		for shift := 55; shift < 63; shift++ {
			for more := -2; more <= 2; more++ {
				far := 1<<shift + more
				wants(t, named("PlaceWalk", w, far, 0), results(impl.PlaceWalk(1, 1, []int{0}, b, far, 0)), []int(nil), false)
				wants(t, named("PlaceWalk", w, 0, far), results(impl.PlaceWalk(1, 1, []int{0}, b, 0, far)), []int(nil), false)
				wants(t, named("PlaceWalk", w, far, far), results(impl.PlaceWalk(8, 8, []int{63}, b, far, far)), []int(nil), false)
			}
		}
		for n := -8; n < 0; n++ {
			wants(t, named("PlaceWalk", w, n, 0), results(impl.PlaceWalk(8, 8, []int{63}, b, n, 0)), []int(nil), false)
			wants(t, named("PlaceWalk", w, 0, n), results(impl.PlaceWalk(8, 8, []int{63}, b, 0, n)), []int(nil), false)
		}
	}
}

func TestTheMostTurns(t *testing.T) {
	wants(t, "the limit", results(impl.MaxTurns), 3)
	for most := -3; most <= 6; most++ {
		if most >= 0 && most <= 3 {
			wants(t, named("CloseByTurns", most), results(impl.CloseByTurns(holed(3, 3, 4), knight, ring, most)), ring, true)
		} else {
			wants(t, named("CloseByTurns", most), results(impl.CloseByTurns(holed(3, 3, 4), knight, ring, most)), []int(nil), false)
		}
		wants(t, named("CloseByTurns of a part", most), results(impl.CloseByTurns(holed(3, 3, 4), knight, ring[:7], most)), []int(nil), false)
	}
}
