package tests

import (
	"slices"
	"testing"

	"loop.example/g01239/impl"
)

// arePainted tells by the definition alone whether a list has a colour for each cell, with different ones of any two that are not farther apart than told.
func (g graph) arePainted(colours []int, apart int) bool {
	if len(colours) != len(g.next) {
		return false
	}
	for cell, colour := range colours {
		isThere := slices.Contains(g.cells, cell)
		if !isThere && colour != -1 || isThere && (colour < 0 || colour > 8) {
			return false
		}
	}
	for _, p := range g.cells {
		for _, q := range g.cells {
			if p != q && g.far[p][q] <= apart && colours[p] == colours[q] {
				return false
			}
		}
	}
	return true
}

// eachPainting calls visit for the lists, in lexicographic order, that go on like colours from a cell on with so few colours, as long as it returns true.
func (g graph) eachPainting(colours []int, cell int, few int, apart int, visit func(colours []int) bool) bool {
	if cell == len(colours) {
		return visit(colours)
	}
	if !slices.Contains(g.cells, cell) {
		return g.eachPainting(colours, cell+1, few, apart, visit)
	}
	for colour := range few {
		fits := true
		for _, other := range g.cells {
			fits = fits && (other >= cell || g.far[cell][other] > apart || colours[other] != colour)
		}
		colours[cell] = colour
		if fits && !g.eachPainting(colours, cell+1, few, apart, visit) {
			return false
		}
	}
	colours[cell] = -1
	return true
}

func (g graph) unpainted() []int {
	return slices.Repeat([]int{-1}, len(g.next))
}

func (g graph) firstPainting(few int, apart int) []int {
	var first []int
	g.eachPainting(g.unpainted(), 0, few, apart, func(colours []int) bool {
		first = slices.Clone(colours)
		return false
	})
	return first
}

func (g graph) countPaintings(few int) int {
	count := 0
	g.eachPainting(g.unpainted(), 0, few, 1, func([]int) bool {
		count++
		return true
	})
	return count
}

// Two colours are a painting for each leaper.
func TestTwoColoursOfAllLeapers(t *testing.T) {
	onAll(t, func(t *testing.T, b impl.Board, l impl.Leaper, g graph) {
		colours, counts := g.unpainted(), make([]int, 9)
		var sides [][]int
		for _, least := range g.cells {
			if colours[least] >= 0 {
				continue
			}
			side := []int{0, 0}
			for _, cell := range g.within(least, never-1) {
				colours[cell] = g.far[least][cell] % 2
				side[colours[cell]]++
				counts[colours[cell]]++
			}
			sides = append(sides, side)
		}
		if !g.arePainted(colours, 1) {
			t.Error("distances do not paint")
		}
		expect(t, "TwoColours", results(impl.TwoColours(b, l)), colours, true)
		expect(t, "SidesOfParts", results(impl.SidesOfParts(b, l)), sides, true)
		expect(t, "IsPainting", results(impl.IsPainting(b, l, colours)), true, true)
		expect(t, "IsFarPainting", results(impl.IsFarPainting(b, l, colours)), g.arePainted(colours, 2), true)
		expect(t, "CellsOfColours", results(impl.CellsOfColours(b, colours)), counts, true)
	})
}

// greedy gives each cell the least colour that none so near before it has, in some order of the cells.
func (g graph) greedy(random *numbers, apart int) []int {
	colours := g.unpainted()
	for range 3 * len(g.cells) {
		cell := g.cells[random.below(len(g.cells))]
		free := []int{0, 1, 2, 3, 4, 5, 6, 7, 8}
		for _, other := range g.cells {
			if other != cell && g.far[cell][other] <= apart {
				free = slices.DeleteFunc(free, func(colour int) bool { return colour == colours[other] })
			}
		}
		if len(free) > 0 {
			colours[cell] = free[0]
		}
	}
	return colours
}

func TestPaintingsOfAllLeapers(t *testing.T) {
	random := numbers(9)
	near, far, neither := 0, 0, 0
	onAll(t, func(t *testing.T, b impl.Board, l impl.Leaper, g graph) {
		for _, apart := range []int{1, 2} {
			colours := g.greedy(&random, apart)
			for range 3 {
				isNear, isFar := g.arePainted(colours, 1), g.arePainted(colours, 2)
				expect(t, "IsPainting", results(impl.IsPainting(b, l, colours)), isNear, true)
				expect(t, "IsFarPainting", results(impl.IsFarPainting(b, l, colours)), isFar, true)
				switch {
				case isFar:
					far++
				case isNear:
					near++
				default:
					neither++
				}
				colours[g.cells[random.below(len(g.cells))]] = random.below(9)
			}
		}
	})
	if near < 500 || far < 500 || neither < 500 {
		t.Error("too few paintings were tried:", near, far, neither)
	}
}

func TestFarPaintingsOfAllLeapers(t *testing.T) {
	tried := make([]int, 10)
	onSmall(t, func(t *testing.T, b impl.Board, l impl.Leaper, g graph) {
		if len(g.cells) > 16 {
			expect(t, "FewestFar", results(impl.FewestFar(b, l)), 0, false)
			expect(t, "FirstFar", results(impl.FirstFar(b, l)), []int(nil), false)
			return
		}
		fewest, ok := impl.FewestFar(b, l)
		colours, fine := impl.FirstFar(b, l)
		if !ok || !fine || !g.arePainted(colours, 2) || slices.Max(colours) != fewest-1 {
			t.Fatal("no far painting with", fewest, "colours:", colours)
		}
		expect(t, "IsFarPainting", results(impl.IsFarPainting(b, l, colours)), true, true)
		tried[fewest]++
		if len(g.cells) <= 11 {
			expect(t, "FirstFar with fewer colours", results(g.firstPainting(fewest-1, 2)), []int(nil))
			expect(t, "FirstFar", results(colours), g.firstPainting(fewest, 2))
		}
	})
	for fewest := 1; fewest <= 6; fewest++ {
		if tried[fewest] < 5 {
			t.Error("too few boards were tried with so many colours:", fewest, tried)
		}
	}
}

func TestCountedPaintingsOfAllLeapers(t *testing.T) {
	onSmall(t, func(t *testing.T, b impl.Board, l impl.Leaper, g graph) {
		if len(g.cells) > 7 {
			return
		}
		for few := 1; few <= 4; few++ {
			expect(t, named("CountPaintings", few), results(impl.CountPaintings(b, l, few)), g.countPaintings(few), true)
		}
	})
}

// The cells of each part are painted whatever colours the others have.
func TestCountedPaintingsOfParts(t *testing.T) {
	tried := 0
	onSmall(t, func(t *testing.T, b impl.Board, l impl.Leaper, g graph) {
		parts, _ := impl.PartsOfBoard(b, l)
		if len(parts) == 1 || len(parts) > 4 || len(g.cells) > 16 {
			return
		}
		tried++
		for few := 1; few <= 4; few++ {
			ways := 1
			for _, part := range parts {
				alone := b
				alone.Holes = slices.DeleteFunc(up(0, b.Wide*b.High), func(cell int) bool { return slices.Contains(part, cell) })
				n, ok := impl.CountPaintings(alone, l, few)
				if !ok {
					t.Error("CountPaintings fails on", alone)
				}
				ways *= n
			}
			expect(t, named("CountPaintings", few), results(impl.CountPaintings(b, l, few)), ways, true)
		}
	})
	if tried < 50 {
		t.Error("too few boards were tried:", tried)
	}
}

// modulo is the rest that is not less than 0.
func modulo(n int, m int) int {
	return (n%m + m) % m
}

func TestPaintByStepsOnAllBoards(t *testing.T) {
	random := numbers(10)
	for _, b := range manyBoards() {
		for m := 1; m <= 9; m++ {
			p, q := random.below(m), random.below(m)
			colours := painted(b, func(x int, y int) int { return modulo(p*x+q*y, m) })
			wants(t, named("PaintBySteps", p, q, m), results(impl.PaintBySteps(b, p, q, m)), colours, true)
			counts := make([]int, 9)
			for _, cell := range there(b) {
				counts[colours[cell]]++
			}
			wants(t, "CellsOfColours", results(impl.CellsOfColours(b, colours)), counts, true)
		}
		even, odd := 0, 0
		for _, cell := range there(b) {
			if (cell%b.Wide+cell/b.Wide)%2 == 0 {
				even++
			} else {
				odd++
			}
		}
		wants(t, "BalanceOf", results(impl.BalanceOf(b)), even, odd, true)
	}
}

// On 8 by 8 cells each leaper makes each of its steps somewhere, so that what paints there paints on every board.
func TestDoesPaintOfAllLeapers(t *testing.T) {
	b := plain(8, 8)
	for _, l := range allLeapers() {
		g := graphOf(b, l)
		for m := 1; m <= 9; m++ {
			for p := range m {
				for q := range m {
					colours := painted(b, func(x int, y int) int { return modulo(p*x+q*y, m) })
					paints := g.arePainted(colours, 1)
					wants(t, named("DoesPaint", l.A, l.B, p, q, m), results(impl.DoesPaint(l, p, q, m)), paints, true)
					wants(t, "IsPainting", results(impl.IsPainting(b, l, colours)), paints, true)
				}
			}
		}
	}
}

// A window has the fewest leaps from its middle to all cells x, y of the plane that are not farther from it than its size, on ways within, or never.
type window struct {
	size  int
	leaps []int
}

func (w window) index(x int, y int) int {
	return (y+w.size)*(2*w.size+1) + x + w.size
}

func (w window) to(x int, y int) int {
	return w.leaps[w.index(x, y)]
}

func windowOf(l impl.Leaper, size int) window {
	w := window{size: size, leaps: slices.Repeat([]int{never}, (2*size+1)*(2*size+1))}
	w.leaps[w.index(0, 0)] = 0
	edge := [][2]int{{0, 0}}
	for len(edge) > 0 {
		from := edge[0]
		edge = edge[1:]
		for _, s := range [][2]int{{l.A, l.B}, {l.A, -l.B}, {-l.A, l.B}, {-l.A, -l.B}, {l.B, l.A}, {l.B, -l.A}, {-l.B, l.A}, {-l.B, -l.A}} {
			x, y := from[0]+s[0], from[1]+s[1]
			if distance(x, 0) <= size && distance(y, 0) <= size && w.to(x, y) == never {
				w.leaps[w.index(x, y)] = w.to(from[0], from[1]) + 1
				edge = append(edge, [2]int{x, y})
			}
		}
	}
	return w
}

// Cells of the plane are reached exactly as told.
func TestThePlaneOfAllLeapers(t *testing.T) {
	for _, l := range allLeapers() {
		w := windowOf(l, 120)
		all := true
		for x := -100; x <= 100; x++ {
			for y := -100; y <= 100; y++ {
				reached := w.to(x, y) != never
				all = all && reached
				if can, ok := impl.CanReachFar(l, x, y); can != reached || !ok {
					t.Fatal(named("CanReachFar", l.A, l.B, x, y), "returned", can, ok)
				}
			}
		}
		wants(t, named("ReachesAll", l.A, l.B), results(impl.ReachesAll(l)), all, true)
	}
}

func TestFarLeapsOfAllLeapers(t *testing.T) {
	for _, l := range allLeapers() {
		w := windowOf(l, 60)
		for x := -6; x <= 6; x++ {
			for y := -6; y <= 6; y++ {
				if fewest := w.to(x, y); fewest == never {
					wants(t, named("LeapsFar", l.A, l.B, x, y), results(impl.LeapsFar(l, x, y)), 0, false)
				} else {
					wants(t, named("LeapsFar", l.A, l.B, x, y), results(impl.LeapsFar(l, x, y)), fewest, true)
				}
			}
		}
	}
}

func TestStepsOfAllLeapers(t *testing.T) {
	for _, l := range allLeapers() {
		common := 0
		for n := 1; n <= 5; n++ {
			if l.A%n == 0 && l.B%n == 0 {
				common = n
			}
		}
		steps, _ := impl.StepsOf(l)
		changes := func(step []int) bool { return (step[0]+step[1])%2 != 0 }
		wants(t, named("CommonStep", l.A, l.B), results(impl.CommonStep(l)), common, true)
		wants(t, named("ChangesColour", l.A, l.B), results(impl.ChangesColour(l)), slices.ContainsFunc(steps, changes), true)
	}
}
