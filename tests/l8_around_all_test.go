package tests

import (
	"slices"
	"testing"

	"loop.example/g01239/impl"
)

// areApart tells by the definition alone whether a step by so many columns leads from one of them to another one, or so many rows: from one, or from what it is again farther on if the sides are joined.
func areApart(from int, to int, size int, joined bool, by int) bool {
	if !joined {
		return distance(from, to) == by
	}
	for again := -20; again <= 20; again++ {
		if distance(from, to+again*size) == by {
			return true
		}
	}
	return false
}

func leapsOver(a impl.Around, from int, to int, x int, y int) bool {
	return areApart(from%a.Wide, to%a.Wide, a.Wide, a.Across, x) && areApart(from/a.Wide, to/a.Wide, a.High, a.Upright, y)
}

func graphAround(a impl.Around, l impl.Leaper) graph {
	size := a.Wide * a.High
	return graphBy(size, up(0, size), func(from int, to int) bool {
		return from != to && (leapsOver(a, from, to, l.A, l.B) || leapsOver(a, from, to, l.B, l.A))
	})
}

// eachAround runs a test for all leapers on boards around of all sizes, with whatever sides joined.
func eachAround(t *testing.T, random *numbers, test func(a impl.Around, l impl.Leaper)) {
	t.Helper()
	for w := 1; w <= 12; w++ {
		for h := 1; h <= 12; h++ {
			for _, l := range allLeapers() {
				a := joinings(w, h)[random.below(4)]
				test(a, l)
				if t.Failed() {
					t.Fatal("on", a, "with", l)
				}
			}
		}
	}
}

// hasOddRound tells whether both an even and an odd number of leaps lead from some cell to the same one. It finds with what numbers cells are reached, and goes on until there are no more.
func (g graph) hasOddRound() bool {
	for _, first := range g.cells {
		even, odd := map[int]bool{first: true}, map[int]bool{}
		for before := 0; len(even)+len(odd) > before; {
			before = len(even) + len(odd)
			for _, cell := range g.cells {
				for _, next := range g.next[cell] {
					if even[cell] {
						odd[next] = true
					}
					if odd[cell] {
						even[next] = true
					}
				}
			}
		}
		for cell := range even {
			if odd[cell] {
				return true
			}
		}
		if len(even)+len(odd) == len(g.cells) { // all cells are of one part
			return false
		}
	}
	return false
}

func TestLeapsOfAllLeapersAround(t *testing.T) {
	random := numbers(17)
	same, different := 0, 0
	eachAround(t, &random, func(a impl.Around, l impl.Leaper) {
		g := graphAround(a, l)
		leaps := 0
		var degrees []int
		for _, cell := range g.cells {
			expect(t, named("LeapsAround", cell), results(impl.LeapsAround(a, l, cell)), g.next[cell], true)
			leaps += len(g.next[cell])
			degrees = append(degrees, len(g.next[cell]))
		}
		expect(t, "CountLeapsAround", results(impl.CountLeapsAround(a, l)), leaps/2, true)
		if slices.Min(degrees) == slices.Max(degrees) {
			expect(t, "SameDegree", results(impl.SameDegree(a, l)), degrees[0], true)
			same++
		} else {
			expect(t, "SameDegree", results(impl.SameDegree(a, l)), 0, false)
			different++
		}
	})
	if same < 500 || different < 500 {
		t.Error("too few boards were tried:", same, different)
	}
}

// Leaps around lead back.
func TestLeapsAroundLeadBack(t *testing.T) {
	random := numbers(18)
	eachAround(t, &random, func(a impl.Around, l impl.Leaper) {
		leads := map[[2]int]bool{}
		for from := range a.Wide * a.High {
			cells, _ := impl.LeapsAround(a, l, from)
			for _, to := range cells {
				leads[[2]int{from, to}] = true
			}
		}
		for p := range leads {
			if p[0] == p[1] || !leads[[2]int{p[1], p[0]}] {
				t.Error("a leap does not lead back:", p)
			}
		}
		expect(t, "CountLeapsAround", results(impl.CountLeapsAround(a, l)), len(leads)/2, true)
	})
}

func TestDistancesOfAllLeapersAround(t *testing.T) {
	random := numbers(19)
	ways, none, oddRounds, parted := 0, 0, 0, 0
	eachAround(t, &random, func(a impl.Around, l impl.Leaper) {
		g := graphAround(a, l)
		parts := 0
		for _, cell := range g.cells {
			if g.within(cell, never-1)[0] == cell {
				parts++
			}
		}
		expect(t, "CountParts", results(impl.CountParts(a, l)), parts, true)
		expect(t, "TwoColoursAround", results(impl.TwoColoursAround(a, l)), !g.hasOddRound(), true)
		if g.hasOddRound() {
			oddRounds++
		}
		if parts > 1 {
			parted++
		}
		from := g.cells[random.below(len(g.cells))]
		counts := make([]int, g.greatest(from)+1)
		for _, to := range g.within(from, never-1) {
			counts[g.far[from][to]]++
		}
		expect(t, named("CountByAround", from), results(impl.CountByAround(a, l, from)), counts, true)
		for _, to := range some(&random, g.cells) {
			if g.far[from][to] < never {
				expect(t, named("DistanceAround", from, to), results(impl.DistanceAround(a, l, from, to)), g.far[from][to], true)
				ways++
			} else {
				expect(t, named("DistanceAround", from, to), results(impl.DistanceAround(a, l, from, to)), 0, false)
				none++
			}
		}
	})
	if ways < 1000 || none < 1000 || oddRounds < 500 || parted < 500 {
		t.Error("too few boards were tried:", ways, none, oddRounds, parted)
	}
}

// moved goes from one column or row to the next one, so many times, and returns false at a side that is not joined.
func moved(place int, by int, size int, joined bool) (int, bool) {
	for range distance(by, 0) {
		switch {
		case by > 0 && place < size-1:
			place++
		case by < 0 && place > 0:
			place--
		case !joined:
			return 0, false
		case by > 0:
			place = 0
		default:
			place = size - 1
		}
	}
	return place, true
}

func stepped(a impl.Around, cell int, x int, y int) (int, bool) {
	column, ok := moved(cell%a.Wide, x, a.Wide, a.Across)
	row, fine := moved(cell/a.Wide, y, a.High, a.Upright)
	if !ok || !fine {
		return 0, false
	}
	return row*a.Wide + column, true
}

func TestAllStepsAround(t *testing.T) {
	random := numbers(20)
	found, none := 0, 0
	for w := 1; w <= 12; w++ {
		for h := 1; h <= 12; h++ {
			for _, a := range joinings(w, h) {
				cell := random.below(w * h)
				for x := -20; x <= 20; x++ {
					for y := -20; y <= 20; y++ {
						to, ok := stepped(a, cell, x, y)
						got, fine := impl.StepAround(a, cell, x, y)
						if got != to || fine != ok {
							t.Fatal(named("StepAround", cell, x, y), "on", a, "returned", got, fine, "not", to, ok)
						}
						if ok {
							found++
						} else {
							none++
						}
					}
				}
			}
		}
	}
	if found < 100000 || none < 100000 {
		t.Error("too few steps were tried:", found, none)
	}
}

// Orbits of a step share the cells: each cell is in just one, all have the same length, and they are as many as told.
func TestOrbitsShareTheCells(t *testing.T) {
	random := numbers(21)
	lengths := map[int]int{}
	for w := 1; w <= 12; w++ {
		for h := 1; h <= 12; h++ {
			a := torus(w, h)
			for range 12 {
				x, y := random.below(41)-20, random.below(41)-20
				orbits, in := 0, make([]int, w*h)
				for cell := range w * h {
					orbit := []int{cell}
					next, _ := stepped(a, cell, x, y)
					for next != cell {
						orbit = append(orbit, next)
						next, _ = stepped(a, next, x, y)
					}
					wants(t, named("OrbitOf", w, h, cell, x, y), results(impl.OrbitOf(a, cell, x, y)), orbit, true)
					wants(t, named("OrbitLength", w, h, x, y), results(impl.OrbitLength(a, x, y)), len(orbit), true)
					lengths[len(orbit)]++
					if in[cell] > 0 {
						continue
					}
					orbits++
					for _, other := range orbit {
						in[other]++
					}
				}
				wants(t, "how many orbits have each cell", results(in), slices.Repeat([]int{1}, w*h))
				wants(t, named("CountOrbits", w, h, x, y), results(impl.CountOrbits(a, x, y)), orbits, true)
			}
		}
	}
	if len(lengths) < 30 || lengths[1] < 30 || lengths[132] < 30 {
		t.Error("too few orbits were tried:", lengths)
	}
}

// twoSteps makes two steps by turns, and tells whether it ended at a side.
func twoSteps(a impl.Around, often []int, seldom []int, turns int) (cells []int, left bool) {
	at := 0
	for made := 1; !slices.Contains(cells, at); made++ {
		cells = append(cells, at)
		step := often
		if made%turns == 0 {
			step = seldom
		}
		to, ok := stepped(a, at, step[0], step[1])
		if !ok {
			return cells, true
		}
		at = to
	}
	return cells, false
}

func TestTwoStepsOfAllLeapers(t *testing.T) {
	random := numbers(22)
	all, left, back := 0, 0, 0
	eachAround(t, &random, func(a impl.Around, l impl.Leaper) {
		steps := sortedSteps(l)
		for range 10 {
			first, second, turns := random.below(len(steps)), random.below(len(steps)), 2+random.below(13)
			if random.below(4) == 0 {
				turns = 2 + random.below(149)
			}
			cells, atSide := twoSteps(a, steps[first], steps[second], turns)
			visitsAll := len(cells) == a.Wide*a.High
			expect(t, named("TwoSteps", first, second, turns), results(impl.TwoSteps(a, l, first, second, turns)), cells, true)
			expect(t, named("VisitsAll", first, second, turns), results(impl.VisitsAll(a, l, first, second, turns)), visitsAll, true)
			switch {
			case visitsAll:
				all++
			case atSide:
				left++
			default:
				back++
			}
		}
	})
	if all < 500 || left < 1000 || back < 1000 {
		t.Error("too few steps were tried:", all, left, back)
	}
}

// firstTwoSteps tries all steps and turns in order.
func firstTwoSteps(a impl.Around, l impl.Leaper) []any {
	steps := sortedSteps(l)
	for first, often := range steps {
		for second, seldom := range steps {
			for turns := 2; turns <= 50; turns++ {
				if cells, _ := twoSteps(a, often, seldom, turns); len(cells) == a.Wide*a.High {
					return results(first, second, turns, true)
				}
			}
		}
	}
	return results(0, 0, 0, false)
}

func TestFirstTwoStepsOfAllLeapers(t *testing.T) {
	random := numbers(23)
	found, none := map[any]int{}, 0
	eachAround(t, &random, func(a impl.Around, l impl.Leaper) {
		if random.below(4) > 0 {
			return
		}
		wanted := firstTwoSteps(a, l)
		expect(t, "FirstTwoSteps", results(impl.FirstTwoSteps(a, l)), wanted...)
		if wanted[3] == true {
			found[wanted[0]]++
		} else {
			none++
		}
	})
	if found[0] < 50 || len(found) < 4 || none < 100 {
		t.Error("too few boards were tried:", found, none)
	}
}
