package tests

import (
	"math"
	"slices"
	"testing"

	"loop.example/g01239/impl"
)

// A vector is a point x, y, or the change of both.
type vector [2]int

func pointOf(b impl.Board, cell int) vector {
	return vector{cell % b.Wide, cell / b.Wide}
}

func (v vector) less(w vector) vector {
	return vector{v[0] - w[0], v[1] - w[1]}
}

// area is twice that of the triangle of 0, 0 and two points, with its sign.
func (v vector) area(w vector) int {
	return v[0]*w[1] - v[1]*w[0]
}

func (v vector) dot(w vector) int {
	return v[0]*w[0] + v[1]*w[1]
}

// areCrossed tells by the definition alone whether two leaps have a point in common that is not an end of both. It solves for the parts of both leaps, of so many each, at which a common point is; leaps along one line have such a point if more than one is in common.
func areCrossed(b impl.Board, p []int, q []int) bool {
	start, other := pointOf(b, p[0]), pointOf(b, q[0])
	step, turned := pointOf(b, p[1]).less(start), pointOf(b, q[1]).less(other)
	parts, to := step.area(turned), other.less(start)
	if parts == 0 {
		first, last := to.dot(step), pointOf(b, q[1]).less(start).dot(step)
		return to.area(step) == 0 && min(max(first, last), step.dot(step)) > max(min(first, last), 0)
	}
	atP, atQ := to.area(turned), to.area(step)
	if parts < 0 {
		parts, atP, atQ = -parts, -atP, -atQ
	}
	common := atP >= 0 && atP <= parts && atQ >= 0 && atQ <= parts
	return common && !(atP%parts == 0 && atQ%parts == 0)
}

// leapsOf has the leaps of a path.
func leapsOf(path []int) [][]int {
	var list [][]int
	for i := 1; i < len(path); i++ {
		list = append(list, []int{path[i-1], path[i]})
	}
	return list
}

// countCrossed counts the pairs of crossing leaps of a path.
func countCrossed(b impl.Board, path []int) int {
	crossed := 0
	list := leapsOf(path)
	for j, q := range list {
		for _, p := range list[:j] {
			if areCrossed(b, p, q) {
				crossed++
			}
		}
	}
	return crossed
}

// allLeaps has each leap of a board as its less and its greater cell, in order.
func (g graph) allLeaps() [][]int {
	var list [][]int
	for _, less := range g.cells {
		for _, greater := range g.next[less] {
			if less < greater {
				list = append(list, []int{less, greater})
			}
		}
	}
	return list
}

func TestLeapsOfAllLeapersCross(t *testing.T) {
	random := numbers(14)
	crossed, uncrossed := 0, 0
	onAll(t, func(t *testing.T, b impl.Board, l impl.Leaper, g graph) {
		list := g.allLeaps()
		for range min(4, len(list)) {
			p := list[random.below(len(list))]
			var crossing [][]int
			for _, q := range list {
				cross := areCrossed(b, p, q)
				expect(t, named("DoLeapsCross", p[0], p[1], q[0], q[1]), results(impl.DoLeapsCross(b, l, p, q)), cross, true)
				expect(t, named("DoLeapsCross", q[1], q[0], p[0], p[1]), results(impl.DoLeapsCross(b, l, backwards(q), p)), cross, true)
				if cross {
					crossing = append(crossing, q)
					crossed++
				} else {
					uncrossed++
				}
			}
			expect(t, named("CrossedLeaps", p...), results(impl.CrossedLeaps(b, l, p[0], p[1])), crossing, true)
			expect(t, named("CrossedLeaps", p[1], p[0]), results(impl.CrossedLeaps(b, l, p[1], p[0])), crossing, true)
		}
		for range 4 {
			from, to := g.cells[random.below(len(g.cells))], g.cells[random.below(len(g.cells))]
			if !leaps(b, l, from, to) {
				expect(t, named("CrossedLeaps", from, to), results(impl.CrossedLeaps(b, l, from, to)), [][]int(nil), false)
				expect(t, named("DoLeapsCross", from, to), results(impl.DoLeapsCross(b, l, []int{from, to}, []int{from, to})), false, false)
			}
		}
	})
	if crossed < 10000 || uncrossed < 10000 {
		t.Error("too few leaps were tried:", crossed, uncrossed)
	}
}

// randomPath goes on from a cell by chance, also back and over a cell again.
func (g graph) randomPath(random *numbers, start int, most int) []int {
	path := []int{start}
	for len(path) < most {
		next := g.next[path[len(path)-1]]
		if len(next) == 0 {
			break
		}
		path = append(path, next[random.below(len(next))])
	}
	return path
}

// turnsOf has the turns of a path to the left, straight on or back, and to the right, by the angles between its leaps.
func turnsOf(b impl.Board, path []int) [3]int {
	var turns [3]int
	for i := 2; i < len(path); i++ {
		before := pointOf(b, path[i-1]).less(pointOf(b, path[i-2]))
		behind := pointOf(b, path[i]).less(pointOf(b, path[i-1]))
		angle := math.Atan2(float64(behind[1]), float64(behind[0])) - math.Atan2(float64(before[1]), float64(before[0]))
		turned := math.Sin(angle)
		switch {
		case turned > 1e-9:
			turns[0]++
		case turned < -1e-9:
			turns[2]++
		default:
			turns[1]++
		}
	}
	return turns
}

func TestPathsOfAllLeapersCross(t *testing.T) {
	random := numbers(15)
	crossed, uncrossed, twice := 0, 0, 0
	onAll(t, func(t *testing.T, b impl.Board, l impl.Leaper, g graph) {
		var paths [][]int
		for range 3 {
			start, most := g.cells[random.below(len(g.cells))], 1+random.below(64)
			paths = append(paths, g.randomPath(&random, start, most), g.randomPath(&random, start, 3))
			paths = append(paths, g.randomWalk(&random, start, nil, most), g.randomUncrossed(b, &random, start, 64))
		}
		for _, path := range paths {
			crossings, turns, walked := countCrossed(b, path), turnsOf(b, path), g.isWalked(path)
			expect(t, "CountCrossings", results(impl.CountCrossings(b, l, path)), crossings, true)
			expect(t, "IsUncrossed", results(impl.IsUncrossed(b, l, path)), walked && crossings == 0, walked)
			expect(t, "TurnsOfPath", results(impl.TurnsOfPath(b, l, path)), turns[0], turns[1], turns[2], true)
			expect(t, "BackPath", results(impl.BackPath(b, l, path)), backwards(path), true)
			switch {
			case !walked:
				twice++
			case crossings > 0:
				crossed++
			case len(path) > 3:
				uncrossed++
			}
		}
	})
	if crossed < 500 || uncrossed < 500 || twice < 500 {
		t.Error("too few paths were tried:", crossed, uncrossed, twice)
	}
}

// onRing has all points on the leaps of a ring.
func onRing(b impl.Board, ring []int) map[vector]bool {
	points := map[vector]bool{}
	for _, p := range leapsOf(append(slices.Clone(ring), ring[0])) {
		start := pointOf(b, p[0])
		step := pointOf(b, p[1]).less(start)
		for x := range 8 {
			for y := range 8 {
				to := vector{x, y}.less(start)
				if to.area(step) == 0 && to.dot(step) >= 0 && to.dot(step) <= step.dot(step) {
					points[vector{x, y}] = true
				}
			}
		}
	}
	return points
}

// goesAround tells by the angles in which its leaps are seen from a point that is not on it whether a ring goes around this.
func goesAround(b impl.Board, ring []int, point vector) bool {
	sum := 0.0
	for _, p := range leapsOf(append(slices.Clone(ring), ring[0])) {
		from, to := pointOf(b, p[0]).less(point), pointOf(b, p[1]).less(point)
		sum += math.Atan2(float64(from.area(to)), float64(from.dot(to)))
	}
	return math.Abs(sum) > math.Pi
}

// twiceRing is twice the area to the left of the leaps of a ring, up to the first column.
func twiceRing(b impl.Board, ring []int) int {
	area := 0
	for _, p := range leapsOf(append(slices.Clone(ring), ring[0])) {
		from, to := pointOf(b, p[0]), pointOf(b, p[1])
		area += (from[0] + to[0]) * (to[1] - from[1])
	}
	return area
}

// isRingOf tells by the definition alone whether a list of cells is a ring.
func (g graph) isRingOf(b impl.Board, list []int) bool {
	return len(list) <= 16 && g.isWalked(list) && g.closes(list) && countCrossed(b, append(slices.Clone(list), list[0])) == 0
}

// randomUncrossed goes on like randomWalk, but over no leap before.
func (g graph) randomUncrossed(b impl.Board, random *numbers, start int, most int) []int {
	walk := []int{start}
	for len(walk) < most {
		next := slices.DeleteFunc(slices.Clone(g.next[walk[len(walk)-1]]), func(cell int) bool {
			longer := append(slices.Clone(walk), cell)
			return slices.Contains(walk, cell) || countCrossed(b, longer) > 0
		})
		if len(next) == 0 {
			break
		}
		walk = append(walk, next[random.below(len(next))])
	}
	return walk
}

// isRingTold asks for all that is told of a ring, and returns the cells that are inside.
func isRingTold(t *testing.T, b impl.Board, l impl.Leaper, ring []int) (inside []int) {
	t.Helper()
	on := onRing(b, ring)
	for cell := range b.Wide * b.High {
		if point := pointOf(b, cell); !on[point] && goesAround(b, ring, point) {
			inside = append(inside, cell)
		}
	}
	expect(t, "IsRing", results(impl.IsRing(b, l, ring)), true, true)
	expect(t, "TwiceArea", results(impl.TwiceArea(b, l, ring)), twiceRing(b, ring), true)
	expect(t, "InsideRing", results(impl.InsideRing(b, l, ring)), inside, true)
	expect(t, "PointsInside", results(impl.PointsInside(b, l, ring)), len(inside), true)
	expect(t, "PointsOnRing", results(impl.PointsOnRing(b, l, ring)), len(on), true)
	return inside
}

// Rings have as many points inside as the formula tells.
func TestRingsOfAllLeapers(t *testing.T) {
	random := numbers(16)
	rings, holesInside, others := map[int]int{}, 0, 0
	onAll(t, func(t *testing.T, b impl.Board, l impl.Leaper, g graph) {
		for range 6 {
			ring := g.randomUncrossed(b, &random, g.cells[random.below(len(g.cells))], 16)
			for len(ring) >= 3 && !g.isRingOf(b, ring) {
				ring = ring[:len(ring)-1]
			}
			if len(ring) < 3 {
				continue
			}
			rings[len(ring)]++
			inside := isRingTold(t, b, l, ring)
			if slices.ContainsFunc(inside, func(cell int) bool { return isHole(b, cell) }) {
				holesInside++
			}
			isRingTold(t, b, l, backwards(ring))
		}
		list := g.randomRing(&random, nil, 24)
		if list == nil {
			return
		}
		isRing := g.isRingOf(b, list)
		expect(t, "IsRing", results(impl.IsRing(b, l, list)), isRing, true)
		if !isRing {
			isNoRing(t, b, l, list)
			others++
		}
	})
	for _, n := range []int{4, 6, 8, 10, 12, 14, 16} {
		if rings[n] < 10 {
			t.Error("too few rings were tried:", rings)
		}
	}
	if holesInside < 50 || others < 100 {
		t.Error("too few rings were tried:", holesInside, others)
	}
}

// eachUncrossed calls visit for each uncrossed walk of at most so many cells that begins like path, in lexicographic order.
func (g graph) eachUncrossed(b impl.Board, path []int, most int, visit func(walk []int)) {
	visit(path)
	if len(path) == most {
		return
	}
	last := path[len(path)-1]
	before := leapsOf(path)
	for _, next := range g.next[last] {
		crosses := func(p []int) bool { return areCrossed(b, p, []int{last, next}) }
		if !slices.Contains(path, next) && !slices.ContainsFunc(before, crosses) {
			g.eachUncrossed(b, append(path, next), most, visit)
		}
	}
}

// A best has the first one of the walks with the most that was counted for one.
type best struct {
	walk []int
	most int
}

func (w *best) add(walk []int, n int) {
	if n > w.most {
		w.walk, w.most = slices.Clone(walk), n
	}
}

func TestUncrossedWalksOfAllLeapers(t *testing.T) {
	found := map[int]int{}
	onSmall(t, func(t *testing.T, b impl.Board, l impl.Leaper, g graph) {
		if len(g.cells) > 16 {
			expect(t, "LongestUncrossed", results(impl.LongestUncrossed(b, l)), []int(nil), false)
			expect(t, "LargestRing", results(impl.LargestRing(b, l, 4)), []int(nil), false)
			return
		}
		var longest best
		var largest [9]best
		for _, start := range g.cells {
			g.eachUncrossed(b, []int{start}, 16, func(walk []int) {
				longest.add(walk, len(walk))
				if len(walk) <= 8 && g.closes(walk) && g.isRingOf(b, walk) {
					largest[len(walk)].add(walk, distance(twiceRing(b, walk), 0))
				}
			})
		}
		expect(t, "LongestUncrossed", results(impl.LongestUncrossed(b, l)), longest.walk, true)
		for n := 3; n <= 8; n++ {
			ring := largest[n].walk
			expect(t, named("LargestRing", n), results(impl.LargestRing(b, l, n)), ring, ring != nil)
			if ring != nil {
				found[n]++
			}
		}
	})
	if found[4] < 100 || found[6] < 20 || found[8] < 20 {
		t.Error("too few rings were found:", found)
	}
}

// mostApart tries for the least cell to leave it alone, and each leap from it to another one of the cells that crosses none of some leaps.
func (g graph) mostApart(b impl.Board, cells []int, taken [][]int) int {
	if len(cells) < 2 {
		return 0
	}
	rest := cells[1:]
	most := g.mostApart(b, rest, taken)
	for _, next := range g.next[cells[0]] {
		leap := []int{cells[0], next}
		crosses := func(p []int) bool { return areCrossed(b, p, leap) }
		if slices.Contains(rest, next) && !slices.ContainsFunc(taken, crosses) {
			others := slices.DeleteFunc(slices.Clone(rest), func(cell int) bool { return cell == next })
			most = max(most, 1+g.mostApart(b, others, append(slices.Clone(taken), leap)))
		}
	}
	return most
}

func TestLeapsApartOfAllLeapers(t *testing.T) {
	few, many, fewer := 0, 0, 0
	onSmall(t, func(t *testing.T, b impl.Board, l impl.Leaper, g graph) {
		if len(g.cells) > 16 || len(g.allLeaps()) > 24 {
			expect(t, "MostApart", results(impl.MostApart(b, l)), 0, false)
			many++
			return
		}
		most := g.mostApart(b, g.cells, nil)
		expect(t, "MostApart", results(impl.MostApart(b, l)), most, true)
		few++
		if pairs, _ := impl.MostPairs(b, l); pairs > most {
			fewer++
		}
	})
	if few < 1000 || many < 10 || fewer < 100 {
		t.Error("too few boards were tried:", few, many, fewer)
	}
}
