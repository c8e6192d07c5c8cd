package tests

import (
	"slices"
	"testing"

	"loop.example/g01239/impl"
)

// isWalked tells by the definition alone whether a list of cells is a walk.
func (g graph) isWalked(list []int) bool {
	for i, cell := range list {
		if slices.Contains(list[:i], cell) || i > 0 && !slices.Contains(g.next[list[i-1]], cell) {
			return false
		}
	}
	return len(list) > 0
}

// randomWalk goes on from a cell by chance, over none of the cells to avoid, as long as it can or up to most cells.
func (g graph) randomWalk(random *numbers, start int, avoid []int, most int) []int {
	walk := []int{start}
	for len(walk) < most {
		next := slices.DeleteFunc(slices.Clone(g.next[walk[len(walk)-1]]), func(cell int) bool {
			return slices.Contains(walk, cell) || slices.Contains(avoid, cell)
		})
		if len(next) == 0 {
			break
		}
		walk = append(walk, next[random.below(len(next))])
	}
	return walk
}

// randomRing is a closed walk over none of the cells to avoid that some tries find, or nil.
func (g graph) randomRing(random *numbers, avoid []int, most int) []int {
	for range 20 {
		start := g.cells[random.below(len(g.cells))]
		if slices.Contains(avoid, start) {
			continue
		}
		walk := g.randomWalk(random, start, avoid, most)
		for len(walk) >= 3 && !g.closes(walk) {
			walk = walk[:len(walk)-1]
		}
		if len(walk) >= 3 {
			return walk
		}
	}
	return nil
}

// backwards has the elements of a list in the other order.
func backwards(list []int) []int {
	var other []int
	for _, n := range list {
		other = append([]int{n}, other...)
	}
	return other
}

// tailTurned turns a tail by the definition alone.
func tailTurned(walk []int, k int) []int {
	return slices.Concat(walk[:k], backwards(walk[k:]))
}

// turnedOnce has the other walks that one turn of each of some walks makes, in order.
func (g graph) turnedOnce(walks [][]int) [][]int {
	var turned [][]int
	for _, walk := range walks {
		for k := 1; k < len(walk); k++ {
			other := tailTurned(walk, k)
			if g.isWalked(other) && !slices.Equal(walk, other) {
				turned = append(turned, other)
			}
		}
	}
	return turned
}

// closedByTurns is the first closed walk after the fewest turns up to most, and how many they are; it is nil if there is none.
func (g graph) closedByTurns(walk []int, most int) ([]int, int) {
	walks := [][]int{walk}
	for turns := range most + 1 {
		i := slices.IndexFunc(walks, g.closes)
		if i >= 0 {
			return walks[i], turns
		}
		walks = g.turnedOnce(walks)
	}
	return nil, never
}

// onWalks runs a test for all leapers on boards of all sizes with some walks that chance finds, as long as they can be and shorter ones.
func onWalks(t *testing.T, test func(t *testing.T, b impl.Board, l impl.Leaper, g graph, walk []int)) {
	t.Helper()
	random := numbers(9)
	onAll(t, func(t *testing.T, b impl.Board, l impl.Leaper, g graph) {
		for range 8 {
			start := g.cells[random.below(len(g.cells))]
			walk := g.randomWalk(&random, start, nil, 64)
			test(t, b, l, g, walk)
			test(t, b, l, g, walk[random.below(len(walk)):])
		}
	})
}

// Walks with turned tails keep their cells.
func TestTurnsOfAllLeapers(t *testing.T) {
	turned, unturned := 0, 0
	onWalks(t, func(t *testing.T, b impl.Board, l impl.Leaper, g graph, walk []int) {
		expect(t, "ReverseWalk", results(impl.ReverseWalk(b, l, walk)), backwards(walk), true)
		var turns []int
		for k := -1; k <= len(walk)+1; k++ {
			if k < 1 || k >= len(walk) || !g.isWalked(tailTurned(walk, k)) {
				expect(t, named("TurnTail", k), results(impl.TurnTail(b, l, walk, k)), []int(nil), false)
				unturned++
				continue
			}
			other := tailTurned(walk, k)
			expect(t, named("TurnTail", k), results(impl.TurnTail(b, l, walk, k)), other, true)
			expect(t, "IsWalk", results(impl.IsWalk(b, l, other)), true, true)
			expect(t, named("TurnTail again", k), results(impl.TurnTail(b, l, other, k)), walk, true)
			if !slices.Equal(walk, other) {
				turns = append(turns, k)
			}
			turned++
		}
		expect(t, "TailTurns", results(impl.TailTurns(b, l, walk)), turns, true)
		expect(t, "IsClosedWalk", results(impl.IsClosedWalk(b, l, walk)), g.closes(walk), true)
	})
	if turned < 10000 || unturned < 10000 {
		t.Error("too few tails were turned:", turned, unturned)
	}
}

func TestWalksClosedByTurnsOfAllLeapers(t *testing.T) {
	counts := map[int]int{}
	onWalks(t, func(t *testing.T, b impl.Board, l impl.Leaper, g graph, walk []int) {
		for most := range 4 {
			closed, turns := g.closedByTurns(walk, most)
			expect(t, named("CloseByTurns", most), results(impl.CloseByTurns(b, l, walk, most)), closed, closed != nil)
			if most == 3 {
				counts[turns]++
			}
			if closed != nil {
				expect(t, "IsClosedWalk", results(impl.IsClosedWalk(b, l, closed)), true, true)
			}
		}
	})
	for _, turns := range []int{0, 1, 2, 3, never} {
		if counts[turns] < 15 {
			t.Error("too few walks were closed:", counts)
		}
	}
}

// joins has all closed walks that p up to an index, the other walk from an index on around, forwards or backwards, and the rest of p make, in order.
func (g graph) joins(p []int, q []int) [][]int {
	var made [][]int
	for i := range p {
		for j := range q {
			around := slices.Concat(q[j:], q[:j])
			for _, inner := range [][]int{around, slices.Concat(around[:1], backwards(around[1:]))} {
				list := slices.Concat(p[:i+1], inner, p[i+1:])
				if g.isWalked(list) && g.closes(list) {
					made = append(made, list)
				}
			}
		}
	}
	return made
}

// Two closed walks are joined.
func TestJoinsOfAllLeapers(t *testing.T) {
	random := numbers(10)
	one, several, none := 0, 0, 0
	onAll(t, func(t *testing.T, b impl.Board, l impl.Leaper, g graph) {
		for range 8 {
			p := g.randomRing(&random, nil, 4+random.below(12))
			q := g.randomRing(&random, p, 4+random.below(20))
			if p == nil || q == nil {
				continue
			}
			made := g.joins(p, q)
			expect(t, "JoinClosed", results(impl.JoinClosed(b, l, p, q)), first(made), len(made) > 0)
			expect(t, "CountJoins", results(impl.CountJoins(b, l, p, q)), len(made), true)
			expect(t, "CountJoins the other way", results(impl.CountJoins(b, l, q, p)), len(made), true)
			switch len(made) {
			case 0:
				none++
			case 1:
				one++
			default:
				several++
			}
		}
	})
	if one < 100 || several < 100 || none < 100 {
		t.Error("too few closed walks were joined:", one, several, none)
	}
}

func TestChainsOfAllLeapers(t *testing.T) {
	random := numbers(11)
	chained, unchained := 0, 0
	onWalks(t, func(t *testing.T, b impl.Board, l impl.Leaper, g graph, walk []int) {
		k := random.below(len(walk) + 1)
		p, q := walk[:k], walk[k:]
		if len(p) > 0 && len(q) > 0 {
			expect(t, named("ChainWalks", k), results(impl.ChainWalks(b, l, p, q)), walk, true)
			chained++
		} else {
			expect(t, named("ChainWalks", k), results(impl.ChainWalks(b, l, p, q)), []int(nil), false)
		}
		other := g.randomWalk(&random, g.cells[random.below(len(g.cells))], nil, 4)
		if both := slices.Concat(walk, other); g.isWalked(both) {
			expect(t, "ChainWalks", results(impl.ChainWalks(b, l, walk, other)), both, true)
			chained++
		} else {
			expect(t, "ChainWalks", results(impl.ChainWalks(b, l, walk, other)), []int(nil), false)
			unchained++
		}
	})
	if chained < 1000 || unchained < 1000 {
		t.Error("too few walks were chained:", chained, unchained)
	}
}

// place moves a list by the definition alone; it is nil if one of its cells comes to none.
func place(w int, list []int, b impl.Board, x int, y int) []int {
	var placed []int
	for _, cell := range list {
		column, row := cell%w+x, cell/w+y
		if column >= b.Wide || row >= b.High || isHole(b, column+row*b.Wide) {
			return nil
		}
		placed = append(placed, column+row*b.Wide)
	}
	return placed
}

func TestPlacesOnAllBoards(t *testing.T) {
	random := numbers(12)
	placed, unplaced := 0, 0
	for _, b := range manyBoards() {
		for range 200 {
			w, h := 1+random.below(8), 1+random.below(8)
			list := someOf(&random, up(0, w*h), 1+random.below(6))
			if random.below(2) == 0 {
				list = backwards(list)
			}
			x, y := random.below(4), random.below(4)
			wanted := place(w, list, b, x, y)
			wants(t, named("PlaceWalk", w, h, x, y), results(impl.PlaceWalk(w, h, list, b, x, y)), wanted, wanted != nil)
			if wanted != nil {
				placed++
			} else {
				unplaced++
			}
		}
	}
	if placed < 1000 || unplaced < 1000 {
		t.Error("too few lists were placed:", placed, unplaced)
	}
}

func TestSumsOfAllLeapers(t *testing.T) {
	onWalks(t, func(t *testing.T, b impl.Board, l impl.Leaper, g graph, walk []int) {
		rows, columns := make([]int, b.High), make([]int, b.Wide)
		for i, cell := range walk {
			rows[cell/b.Wide] += i + 1
			columns[cell%b.Wide] += i + 1
		}
		magic := len(walk) == len(g.cells) && len(slices.Compact(slices.Clone(rows))) == 1 && len(slices.Compact(slices.Clone(columns))) == 1
		expect(t, "RowSumsOf", results(impl.RowSumsOf(b, l, walk)), rows, true)
		expect(t, "ColumnSumsOf", results(impl.ColumnSumsOf(b, l, walk)), columns, true)
		expect(t, "IsHalfMagic", results(impl.IsHalfMagic(b, l, walk)), magic, true)
	})
}

func TestOppositePairsOfAllLeapers(t *testing.T) {
	with := 0
	onWalks(t, func(t *testing.T, b impl.Board, l impl.Leaper, g graph, walk []int) {
		m := len(walk)
		if m%2 == 1 {
			expect(t, "OppositePairs", results(impl.OppositePairs(b, l, walk)), 0, false)
			return
		}
		pairs := 0
		for i := range m / 2 {
			if walk[i]+walk[i+m/2] == b.Wide*b.High-1 { // the columns and the rows together, as no column is greater than Wide - 1
				pairs++
			}
		}
		expect(t, "OppositePairs", results(impl.OppositePairs(b, l, walk)), pairs, true)
		if pairs > 0 {
			with++
		}
	})
	if with < 100 {
		t.Error("too few walks have opposite cells:", with)
	}
}

// sortedSteps has the steps of a leaper by the definition alone.
func sortedSteps(l impl.Leaper) [][]int {
	var steps [][]int
	for x := -5; x <= 5; x++ {
		for y := -5; y <= 5; y++ {
			if min(distance(x, 0), distance(y, 0)) == l.A && max(distance(x, 0), distance(y, 0)) == l.B {
				steps = append(steps, []int{x, y})
			}
		}
	}
	return steps
}

// walked is the walk by steps by the definition alone; it is nil if it is none.
func (g graph) walked(b impl.Board, l impl.Leaper, start int, steps []int) []int {
	all := sortedSteps(l)
	walk := []int{start}
	x, y := start%b.Wide, start/b.Wide
	for _, index := range steps {
		x += all[index][0]
		y += all[index][1]
		cell := x + y*b.Wide
		if x < 0 || x >= b.Wide || y < 0 || y >= b.High || isHole(b, cell) || slices.Contains(walk, cell) {
			return nil
		}
		walk = append(walk, cell)
	}
	return walk
}

func TestStepsOfWalksOfAllLeapers(t *testing.T) {
	random := numbers(13)
	walks, others := 0, 0
	onWalks(t, func(t *testing.T, b impl.Board, l impl.Leaper, g graph, walk []int) {
		all := sortedSteps(l)
		var steps []int
		for i := 1; i < len(walk); i++ {
			step := []int{walk[i]%b.Wide - walk[i-1]%b.Wide, walk[i]/b.Wide - walk[i-1]/b.Wide}
			steps = append(steps, slices.IndexFunc(all, func(s []int) bool { return slices.Equal(s, step) }))
		}
		expect(t, "StepsOfWalk", results(impl.StepsOfWalk(b, l, walk)), steps, true)
		expect(t, "WalkOfSteps", results(impl.WalkOfSteps(b, l, walk[0], steps)), walk, true)
		for range random.below(3) {
			steps = append(steps, random.below(len(all)))
		}
		wanted := g.walked(b, l, walk[0], steps)
		expect(t, "WalkOfSteps", results(impl.WalkOfSteps(b, l, walk[0], steps)), wanted, wanted != nil)
		if wanted != nil {
			walks++
		} else {
			others++
		}
	})
	if walks < 1000 || others < 1000 {
		t.Error("too few lists of steps were tried:", walks, others)
	}
}
