package tests

import (
	"slices"
	"testing"

	"loop.example/g01239/impl"
)

// guardsOf has by the definition alone for each number of a cell how many cells of a set guard it.
func (g graph) guardsOf(set []int) []int {
	guards := make([]int, len(g.next))
	for _, cell := range set {
		guards[cell]++
		for _, next := range g.next[cell] {
			guards[next]++
		}
	}
	return guards
}

// guarded has the cells that some of such guards are on or leap to.
func (g graph) guarded(guards []int) []int {
	return slices.DeleteFunc(slices.Clone(g.cells), func(cell int) bool { return guards[cell] == 0 })
}

// isPeaceful tells whether each cell of a set with such guards is guarded from itself alone.
func isPeaceful(set []int, guards []int) bool {
	for _, cell := range set {
		if guards[cell] > 1 {
			return false
		}
	}
	return true
}

// eachSet calls visit for each set that goes on like set with some of a rest, in lexicographic order, and for its guards.
func (g graph) eachSet(set []int, rest []int, guards []int, visit func(set []int, guards []int)) {
	visit(set, guards)
	for i, cell := range rest {
		guards[cell]++
		for _, next := range g.next[cell] {
			guards[next]++
		}
		g.eachSet(append(set, cell), rest[i+1:], guards, visit)
		guards[cell]--
		for _, next := range g.next[cell] {
			guards[next]--
		}
	}
}

// A tally has the sets of one kind: how many have so many cells, and the first one of these.
type tally struct {
	counts [17]int
	first  [17][]int
}

func (s *tally) add(set []int) {
	if s.counts[len(set)] == 0 {
		s.first[len(set)] = slices.Clone(set)
	}
	s.counts[len(set)]++
}

// sizes has the numbers of cells of which there are sets, increasing.
func (s *tally) sizes() []int {
	return slices.DeleteFunc(up(0, 17), func(size int) bool { return s.counts[size] == 0 })
}

// tallySets has all guards, all peaceful sets, and all that are both.
func (g graph) tallySets() (guards tally, peaceful tally, both tally) {
	g.eachSet(nil, g.cells, make([]int, len(g.next)), func(set []int, guardsOf []int) {
		quiet := isPeaceful(set, guardsOf)
		if quiet {
			peaceful.add(set)
		}
		if slices.ContainsFunc(g.cells, func(cell int) bool { return guardsOf[cell] == 0 }) {
			return
		}
		guards.add(set)
		if quiet {
			both.add(set)
		}
	})
	return guards, peaceful, both
}

// Guards are fewest, and peaceful sets greatest.
func TestSetsOfAllLeapers(t *testing.T) {
	sought, tooMany := 0, 0
	onSmall(t, func(t *testing.T, b impl.Board, l impl.Leaper, g graph) {
		if len(g.cells) > 16 {
			hasNoSetsLookedFor(t, b, l)
			tooMany++
			return
		}
		sought++
		guards, peaceful, both := g.tallySets()
		fewest := guards.sizes()[0]
		expect(t, "FewestGuards", results(impl.FewestGuards(b, l)), fewest, true)
		expect(t, "FirstGuards", results(impl.FirstGuards(b, l)), guards.first[fewest], true)
		expect(t, "CountFewest", results(impl.CountFewest(b, l)), guards.counts[fewest], true)
		most, all := 0, 0
		for _, size := range peaceful.sizes() {
			most = size
			all += peaceful.counts[size]
		}
		expect(t, "MostPeaceful", results(impl.MostPeaceful(b, l)), most, true)
		expect(t, "FirstPeaceful", results(impl.FirstPeaceful(b, l)), peaceful.first[most], true)
		expect(t, "CountMost", results(impl.CountMost(b, l)), peaceful.counts[most], true)
		expect(t, "CountPeaceful", results(impl.CountPeaceful(b, l)), all, true)
		for size, count := range peaceful.counts {
			if size <= 2 || size%4 == 0 || size >= most {
				expect(t, named("CountPeacefulOf", size), results(impl.CountPeacefulOf(b, l, size)), count, true)
			}
		}
		expect(t, "FewestPeacefulGuards", results(impl.FewestPeacefulGuards(b, l)), both.sizes()[0], true)
	})
	if sought < 1000 || tooMany < 50 {
		t.Error("too few boards were tried:", sought, tooMany)
	}
}

// What is told of sets agrees with the leaps and with the first sets.
func TestSetsAndLeapsOfAllLeapers(t *testing.T) {
	differ := 0
	onSmall(t, func(t *testing.T, b impl.Board, l impl.Leaper, g graph) {
		if len(g.cells) > 16 {
			return
		}
		leaps, _ := impl.CountLeaps(b, l)
		pairs := len(g.cells) * (len(g.cells) - 1) / 2
		expect(t, "CountPeacefulOf 2", results(impl.CountPeacefulOf(b, l, 2)), pairs-leaps, true)
		guards, _ := impl.FirstGuards(b, l)
		expect(t, "AreGuards", results(impl.AreGuards(b, l, guards)), true, true)
		peaceful, _ := impl.FirstPeaceful(b, l)
		expect(t, "ArePeaceful", results(impl.ArePeaceful(b, l, peaceful)), true, true)
		expect(t, "FillPeaceful of the greatest", results(impl.FillPeaceful(b, l, peaceful)), peaceful, true)
		fewest, _ := impl.FewestPeacefulGuards(b, l)
		if len(guards) > fewest || fewest > len(peaceful) {
			t.Error("guards", guards, "peaceful ones", fewest, "peaceful sets", peaceful)
		}
		if len(guards) < fewest {
			differ++
		}
		couples, _ := impl.MostPairs(b, l)
		expect(t, "MostPairs and MostPeaceful", results(couples+len(peaceful)), len(g.cells)) // for all leapers, as all have two colours
	})
	if differ < 5 {
		t.Error("too few boards were tried on which peaceful guards are more:", differ)
	}
}

// someOf picks each cell once in so many times.
func someOf(random *numbers, cells []int, times int) []int {
	var set []int
	for _, cell := range cells {
		if random.below(times) == 0 {
			set = append(set, cell)
		}
	}
	return set
}

func TestGuardedCellsOfAllLeapers(t *testing.T) {
	random := numbers(11)
	guards, peaceful, neither := 0, 0, 0
	onAll(t, func(t *testing.T, b impl.Board, l impl.Leaper, g graph) {
		for times := range 6 {
			set := someOf(&random, g.cells, times*times+1)
			guardsOf := g.guardsOf(set)
			guarded, quiet := g.guarded(guardsOf), isPeaceful(set, guardsOf)
			expect(t, "IsSet", results(impl.IsSet(b, set)), true)
			expect(t, "GuardedBy", results(impl.GuardedBy(b, l, set)), guarded, true)
			expect(t, "AreGuards", results(impl.AreGuards(b, l, set)), len(guarded) == len(g.cells), true)
			expect(t, "ArePeaceful", results(impl.ArePeaceful(b, l, set)), quiet, true)
			switch {
			case quiet && len(set) > 1:
				isFilled(t, b, l, g, set)
				peaceful++
			case quiet:
				isFilled(t, b, l, g, set)
			case len(guarded) == len(g.cells):
				expect(t, "FillPeaceful", results(impl.FillPeaceful(b, l, set)), []int(nil), false)
				guards++
			default:
				expect(t, "FillPeaceful", results(impl.FillPeaceful(b, l, set)), []int(nil), false)
				neither++
			}
		}
	})
	if guards < 500 || peaceful < 500 || neither < 500 {
		t.Error("too few sets were tried:", guards, peaceful, neither)
	}
}

// isFilled tells FillPeaceful of a peaceful set by the definition alone.
func isFilled(t *testing.T, b impl.Board, l impl.Leaper, g graph, set []int) {
	t.Helper()
	filled := slices.Clone(set)
	for _, cell := range g.cells {
		if g.guardsOf(filled)[cell] == 0 {
			filled = append(filled, cell)
		}
	}
	slices.Sort(filled)
	expect(t, "FillPeaceful", results(impl.FillPeaceful(b, l, set)), filled, true)
	expect(t, "ArePeaceful of the filled set", results(impl.ArePeaceful(b, l, filled)), true, true)
	expect(t, "AreGuards of the filled set", results(impl.AreGuards(b, l, filled)), true, true)
}

// mostPairs tries for the least cell to leave it alone, and each leap from it to another one of the cells.
func (g graph) mostPairs(cells []int) int {
	if len(cells) < 2 {
		return 0
	}
	rest := cells[1:]
	most := g.mostPairs(rest)
	for _, next := range g.next[cells[0]] {
		if slices.Contains(rest, next) {
			others := slices.DeleteFunc(slices.Clone(rest), func(cell int) bool { return cell == next })
			most = max(most, 1+g.mostPairs(others))
		}
	}
	return most
}

func TestPairsOfSmallBoards(t *testing.T) {
	onSmall(t, func(t *testing.T, b impl.Board, l impl.Leaper, g graph) {
		if len(g.cells) <= 14 {
			expect(t, "MostPairs", results(impl.MostPairs(b, l)), g.mostPairs(g.cells), true)
		}
	})
}

// On each board there are as many pairs as cells are needed so that each leap has one of them: no more, as each pair needs one, and no fewer by König's theorem.
func TestPairsOfAllBoards(t *testing.T) {
	onAll(t, func(t *testing.T, b impl.Board, l impl.Leaper, g graph) {
		partners := g.partners()
		cover := g.cover(partners)
		for _, from := range g.cells {
			for _, to := range g.next[from] {
				if !slices.Contains(cover, from) && !slices.Contains(cover, to) {
					t.Error("a leap from", from, "to", to, "without a cell of", cover)
				}
			}
		}
		if 2*len(cover) != len(partners) {
			t.Error(len(cover), "cells for pairs of", len(partners))
		}
		expect(t, "MostPairs", results(impl.MostPairs(b, l)), len(cover), true)
	})
}

// side has the even cells of each part, by the distance from its least cell.
func (g graph) side() []int {
	return slices.DeleteFunc(slices.Clone(g.cells), func(cell int) bool {
		return g.far[g.within(cell, never-1)[0]][cell]%2 == 1
	})
}

// partners has the other cell of its pair for each cell that is in one, of pairs that cannot be more.
func (g graph) partners() map[int]int {
	partners := map[int]int{}
	for _, start := range g.side() {
		before := map[int]int{}
		edge := []int{start}
		for len(edge) > 0 {
			from := edge[0]
			edge = edge[1:]
			for _, to := range g.next[from] {
				if _, known := before[to]; known {
					continue
				}
				before[to] = from
				if other, taken := partners[to]; taken {
					edge = append(edge, other)
					continue
				}
				for isOld := true; isOld; {
					from = before[to]
					old, ok := partners[from]
					partners[from], partners[to] = to, from
					to, isOld = old, ok
				}
				edge = nil
				break
			}
		}
	}
	return partners
}

// cover has a cell of each pair: the one of the other side if a way by turns not of pairs and of pairs leads to it from a cell without a partner.
func (g graph) cover(partners map[int]int) []int {
	side := g.side()
	var edge, reached []int
	for _, cell := range side {
		if _, taken := partners[cell]; !taken {
			edge = append(edge, cell)
		}
	}
	for len(edge) > 0 {
		for _, to := range g.next[edge[0]] {
			if !slices.Contains(reached, to) {
				reached = append(reached, to)
				edge = append(edge, partners[to])
			}
		}
		edge = edge[1:]
	}
	cover := slices.Clone(reached)
	for _, cell := range side {
		if other, taken := partners[cell]; taken && !slices.Contains(reached, other) {
			cover = append(cover, cell)
		}
	}
	return cover
}
