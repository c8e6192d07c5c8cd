package tests

import (
	"slices"
	"testing"

	"loop.example/g01239/impl"
)

// eachWalk calls visit for each walk that begins like path, in lexicographic order, by the definition alone.
func (g graph) eachWalk(path []int, visit func(walk []int)) {
	visit(path)
	for _, next := range g.next[path[len(path)-1]] {
		if !slices.Contains(path, next) {
			g.eachWalk(append(path, next), visit)
		}
	}
}

// A tourList has all tours from each cell, in lexicographic order, and the first one of the longest walks.
type tourList struct {
	from    map[int][][]int
	longest []int
}

func (g graph) listTours() tourList {
	list := tourList{from: map[int][][]int{}}
	for _, start := range g.cells {
		g.eachWalk([]int{start}, func(walk []int) {
			if len(walk) == len(g.cells) {
				list.from[start] = append(list.from[start], slices.Clone(walk))
			}
			if len(walk) > len(list.longest) {
				list.longest = slices.Clone(walk)
			}
		})
	}
	return list
}

// closes tells by the definition alone whether a tour is closed.
func (g graph) closes(tour []int) bool {
	return len(tour) >= 3 && slices.Contains(g.next[tour[len(tour)-1]], tour[0])
}

// closedTours has the closed tours as the document tells them: from the least cell on, with the second cell less than the last one.
func (g graph) closedTours(list tourList) [][]int {
	var closed [][]int
	for _, tour := range list.from[g.cells[0]] {
		if g.closes(tour) && tour[1] < tour[len(tour)-1] {
			closed = append(closed, tour)
		}
	}
	return closed
}

// grown is a whole board of so many cells at most: each cell but the first one is a leap from one that was there before.
func grown(random *numbers, l impl.Leaper, cells int) impl.Board {
	g := graphOf(plain(8, 8), l)
	list := []int{random.below(64)}
	for range 20 * cells {
		next := g.next[list[random.below(len(list))]]
		if len(list) < cells && len(next) > 0 {
			cell := next[random.below(len(next))]
			if !slices.Contains(list, cell) {
				list = append(list, cell)
			}
		}
	}
	return impl.Board{Wide: 8, High: 8, Holes: slices.DeleteFunc(up(0, 64), func(cell int) bool { return slices.Contains(list, cell) })}
}

// onSmall runs a test for all leapers on boards on which tours are looked for.
func onSmall(t *testing.T, test func(t *testing.T, b impl.Board, l impl.Leaper, g graph)) {
	t.Helper()
	random := numbers(5)
	for _, l := range allLeapers() {
		boards := manyBoards()
		for cells := 2; cells <= 16; cells++ {
			boards = append(boards, grown(&random, l, cells), grown(&random, l, cells))
		}
		for _, b := range boards {
			if len(there(b)) <= 20 {
				test(t, b, l, graphOf(b, l))
			}
			if t.Failed() {
				t.Fatal("on", b, "with", l)
			}
		}
	}
}

// first has the first one of some lists, or nil.
func first(lists [][]int) []int {
	if len(lists) == 0 {
		return nil
	}
	return lists[0]
}

// Tours visit each cell once, and are counted from all cells.
func TestToursOfAllLeapers(t *testing.T) {
	random := numbers(6)
	withTours, withClosed, without := 0, 0, 0
	onSmall(t, func(t *testing.T, b impl.Board, l impl.Leaper, g graph) {
		list := g.listTours()
		var all [][]int
		for _, start := range g.cells {
			tours := list.from[start]
			expect(t, named("FirstTourFrom", start), results(impl.FirstTourFrom(b, l, start)), first(tours), len(tours) > 0)
			expect(t, named("CountToursFrom", start), results(impl.CountToursFrom(b, l, start)), len(tours), true)
			all = append(all, tours...)
		}
		expect(t, "FirstTour", results(impl.FirstTour(b, l)), first(all), len(all) > 0)
		expect(t, "CountTours", results(impl.CountTours(b, l)), len(all), true)
		closed := g.closedTours(list)
		expect(t, "FirstClosedTour", results(impl.FirstClosedTour(b, l)), first(closed), len(closed) > 0)
		expect(t, "CountClosedTours", results(impl.CountClosedTours(b, l)), len(closed), true)
		for range min(3, len(all)) {
			tour := all[random.below(len(all))]
			expect(t, "IsWalk", results(impl.IsWalk(b, l, tour)), true, true)
			expect(t, "IsTour", results(impl.IsTour(b, l, tour)), true, true)
			expect(t, "IsClosedTour", results(impl.IsClosedTour(b, l, tour)), g.closes(tour), true)
		}
		if len(g.cells) <= 12 {
			expect(t, "LongestWalk", results(impl.LongestWalk(b, l)), list.longest, true)
		} else {
			expect(t, "LongestWalk", results(impl.LongestWalk(b, l)), []int(nil), false)
		}
		switch {
		case len(g.cells) < 4: // these are tried anyway
		case len(closed) > 0:
			withClosed++
		case len(all) > 0:
			withTours++
		default:
			without++
		}
	})
	if withTours < 50 || withClosed < 50 || without < 50 {
		t.Error("too few boards were tried:", withTours, withClosed, without)
	}
}

// Each closed tour is there once from each cell in each direction among all tours, and it is one in all these ways.
func TestClosedToursOfAllLeapers(t *testing.T) {
	onSmall(t, func(t *testing.T, b impl.Board, l impl.Leaper, g graph) {
		tour, ok := impl.FirstClosedTour(b, l)
		if !ok {
			return
		}
		for _, path := range spins(tour) {
			expect(t, "IsClosedTour", results(impl.IsClosedTour(b, l, path)), true, true)
			k := slices.Index(path, tour[0])
			expect(t, named("SpinTour", k), results(impl.SpinTour(b, l, path, k)), slices.Concat(path[k:], path[:k]), true)
		}
		forced, _ := impl.ForcedLeaps(b, l)
		for _, leap := range forced {
			i := slices.Index(tour, leap[0])
			n := len(tour)
			if tour[(i+1)%n] != leap[1] && tour[(i+n-1)%n] != leap[1] {
				t.Error("a closed tour", tour, "without a forced leap", leap)
			}
		}
		if _, forbidden, ok := impl.ColoursForbid(b, l); ok && forbidden {
			t.Error("a closed tour", tour, "that colours forbid")
		}
	})
}

// fewest tells FewestOnward by the definition alone.
func (g graph) fewest(start int) []int {
	walk := []int{start}
	for {
		best, fewest := -1, never
		for _, next := range g.next[walk[len(walk)-1]] {
			onward := 0
			for _, cell := range g.next[next] {
				if !slices.Contains(walk, cell) {
					onward++
				}
			}
			if !slices.Contains(walk, next) && onward < fewest {
				best, fewest = next, onward
			}
		}
		if best < 0 {
			return walk
		}
		walk = append(walk, best)
	}
}

func TestFewestOnwardOfAllLeapers(t *testing.T) {
	random := numbers(8)
	onAll(t, func(t *testing.T, b impl.Board, l impl.Leaper, g graph) {
		for _, start := range some(&random, g.cells) {
			walk := g.fewest(start)
			expect(t, named("FewestOnward", start), results(impl.FewestOnward(b, l, start)), walk, true)
			expect(t, "IsWalk", results(impl.IsWalk(b, l, walk)), true, true)
			expect(t, "IsTour", results(impl.IsTour(b, l, walk)), len(walk) == len(g.cells), true)
			expect(t, "IsClosedTour", results(impl.IsClosedTour(b, l, walk)), len(walk) == len(g.cells) && g.closes(walk), true)
			numbers := make([]int, b.Wide*b.High)
			for i, cell := range walk {
				numbers[cell] = i + 1
			}
			expect(t, "NumbersOfWalk", results(impl.NumbersOfWalk(b, l, walk)), numbers, true)
			expect(t, "WalkOfNumbers", results(impl.WalkOfNumbers(b, l, numbers)), walk, true)
		}
	})
}

func TestColoursAndForcedLeapsOfAllBoards(t *testing.T) {
	onAll(t, func(t *testing.T, b impl.Board, l impl.Leaper, g graph) {
		var ends []int
		var forced [][]int
		difference := 0
		for _, cell := range g.cells {
			difference += 1 - (cell%b.Wide+cell/b.Wide)%2*2
			if len(g.next[cell]) <= 1 {
				ends = append(ends, cell)
			}
			for _, next := range g.next[cell] {
				if len(g.next[cell]) == 2 {
					forced = append(forced, []int{min(cell, next), max(cell, next)})
				}
			}
		}
		slices.SortFunc(forced, slices.Compare)
		forced = slices.CompactFunc(forced, slices.Equal)
		expect(t, "DeadEnds", results(impl.DeadEnds(b, l)), ends, true)
		expect(t, "ForcedLeaps", results(impl.ForcedLeaps(b, l)), forced, true)
		if (l.A+l.B)%2 == 0 {
			expect(t, "ColoursForbid", results(impl.ColoursForbid(b, l)), false, false, false)
		} else {
			expect(t, "ColoursForbid", results(impl.ColoursForbid(b, l)), distance(difference, 0) > 1, difference != 0, true)
		}
	})
}

// Colours forbid no tour that there is.
func TestColoursForbidNoTourThatThereIs(t *testing.T) {
	onSmall(t, func(t *testing.T, b impl.Board, l impl.Leaper, g graph) {
		forbidden, _, ok := impl.ColoursForbid(b, l)
		if tours, _ := impl.CountTours(b, l); ok && forbidden && tours > 0 {
			t.Error(tours, "tours that colours forbid")
		}
	})
}
