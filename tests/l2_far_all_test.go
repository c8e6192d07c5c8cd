package tests

import (
	"slices"
	"testing"

	"loop.example/g01239/impl"
)

// never is more than each distance.
const never = 1000

// A graph has what the definitions alone tell of a board and a leaper: for each number of a cell those of the cells to which a leap leads, and all distances, or never.
type graph struct {
	cells []int
	next  [][]int
	far   [][]int
}

func graphOf(b impl.Board, l impl.Leaper) graph {
	return graphBy(b.Wide*b.High, there(b), func(from int, to int) bool { return leaps(b, l, from, to) })
}

// graphBy has the cells of a board of so many, holes with them, between which there are leaps.
func graphBy(size int, cells []int, leaps func(from int, to int) bool) graph {
	g := graph{cells: cells, next: make([][]int, size), far: make([][]int, size)}
	for _, from := range g.cells {
		g.far[from] = slices.Repeat([]int{never}, size)
		for _, to := range g.cells {
			if leaps(from, to) {
				g.next[from] = append(g.next[from], to)
				g.far[from][to] = 1
			}
		}
		g.far[from][from] = 0
	}
	for _, by := range g.cells {
		for _, from := range g.cells {
			for _, to := range g.cells {
				g.far[from][to] = min(g.far[from][to], g.far[from][by]+g.far[by][to])
			}
		}
	}
	return g
}

// pathsFrom has all paths that go on from path by so many leaps, in lexicographic order.
func (g graph) pathsFrom(path []int, leaps int) [][]int {
	if leaps == 0 {
		return [][]int{slices.Clone(path)}
	}
	var paths [][]int
	for _, next := range g.next[path[len(path)-1]] {
		paths = append(paths, g.pathsFrom(append(path, next), leaps-1)...)
	}
	return paths
}

// routes has all of the paths of pathsFrom that can still be routes to a cell.
func (g graph) routes(path []int, to int) [][]int {
	last := path[len(path)-1]
	if last == to {
		return [][]int{slices.Clone(path)}
	}
	var routes [][]int
	for _, next := range g.next[last] {
		if len(path)+g.far[next][to] == g.far[path[0]][to] {
			routes = append(routes, g.routes(append(path, next), to)...)
		}
	}
	return routes
}

// round is the first round with just so many cells that begins like path, or nil.
func (g graph) round(path []int, cells int) []int {
	last := path[len(path)-1]
	if len(path) == cells {
		if slices.Contains(g.next[last], path[0]) {
			return slices.Clone(path)
		}
		return nil
	}
	for _, next := range g.next[last] {
		if !slices.Contains(path, next) {
			if round := g.round(append(path, next), cells); round != nil {
				return round
			}
		}
	}
	return nil
}

func (g graph) shortestRound() []int {
	for cells := 3; cells <= len(g.cells); cells++ {
		for _, first := range g.cells {
			if round := g.round([]int{first}, cells); round != nil {
				return round
			}
		}
	}
	return nil
}

// within has the cells with a distance of at most so many leaps.
func (g graph) within(from int, leaps int) []int {
	return slices.DeleteFunc(slices.Clone(g.cells), func(cell int) bool { return g.far[from][cell] > leaps })
}

// greatest has the greatest distance from a cell.
func (g graph) greatest(from int) int {
	greatest := 0
	for _, cell := range g.within(from, never-1) {
		greatest = max(greatest, g.far[from][cell])
	}
	return greatest
}

// onAll runs a test for all leapers on boards of all sizes.
func onAll(t *testing.T, test func(t *testing.T, b impl.Board, l impl.Leaper, g graph)) {
	t.Helper()
	for _, b := range manyBoards() {
		for _, l := range allLeapers() {
			test(t, b, l, graphOf(b, l))
			if t.Failed() {
				t.Fatal("on", b, "with", l)
			}
		}
	}
}

// some picks a few cells.
func some(random *numbers, cells []int) []int {
	picked := []int{cells[0]}
	for range 2 {
		picked = append(picked, cells[random.below(len(cells))])
	}
	return picked
}

func TestDistancesOfAllLeapers(t *testing.T) {
	random := numbers(2)
	onAll(t, func(t *testing.T, b impl.Board, l impl.Leaper, g graph) {
		for _, from := range some(&random, g.cells) {
			distances := slices.Repeat([]int{-1}, b.Wide*b.High)
			counts := make([]int, g.greatest(from)+1)
			for _, to := range g.within(from, never-1) {
				distances[to] = g.far[from][to]
				counts[g.far[from][to]]++
			}
			expect(t, named("DistancesFrom", from), results(impl.DistancesFrom(b, l, from)), distances, true)
			expect(t, named("CountByDistance", from), results(impl.CountByDistance(b, l, from)), counts, true)
			farthest := slices.Index(distances, g.greatest(from))
			expect(t, named("FarthestFrom", from), results(impl.FarthestFrom(b, l, from)), farthest, g.greatest(from), true)
			for _, leaps := range []int{0, 1, 2, random.below(13), 12} {
				expect(t, named("CellsWithin", from, leaps), results(impl.CellsWithin(b, l, from, leaps)), g.within(from, leaps), true)
			}
		}
	})
}

func TestPartsOfAllBoards(t *testing.T) {
	onAll(t, func(t *testing.T, b impl.Board, l impl.Leaper, g graph) {
		var parts [][]int
		for _, cell := range g.cells {
			if part := g.within(cell, never-1); part[0] == cell {
				parts = append(parts, part)
			}
		}
		expect(t, "PartsOfBoard", results(impl.PartsOfBoard(b, l)), parts, true)
		expect(t, "IsWhole", results(impl.IsWhole(b, l)), len(parts) == 1, true)
		if len(parts) > 1 {
			expect(t, "WidthOf", results(impl.WidthOf(b, l)), 0, false)
			expect(t, "MiddlesOf", results(impl.MiddlesOf(b, l)), []int(nil), false)
			return
		}
		var greatest, middles []int
		for _, cell := range g.cells {
			greatest = append(greatest, g.greatest(cell))
		}
		for i, cell := range g.cells {
			if greatest[i] == slices.Min(greatest) {
				middles = append(middles, cell)
			}
		}
		expect(t, "WidthOf", results(impl.WidthOf(b, l)), slices.Max(greatest), true)
		expect(t, "MiddlesOf", results(impl.MiddlesOf(b, l)), middles, true)
	})
}

// Routes are shortest in both directions, and there are as many back.
func TestRoutesInBothDirections(t *testing.T) {
	random := numbers(3)
	onAll(t, func(t *testing.T, b impl.Board, l impl.Leaper, g graph) {
		from := g.cells[random.below(len(g.cells))]
		to := some(&random, g.within(from, never-1))[1+random.below(2)]
		routes := g.routes([]int{from}, to)
		isTold(t, b, l, routes)
		for _, route := range routes {
			slices.Reverse(route)
		}
		slices.SortFunc(routes, slices.Compare)
		isTold(t, b, l, routes)
	})
}

// isTold asks for all that is told of two cells with such routes.
func isTold(t *testing.T, b impl.Board, l impl.Leaper, routes [][]int) {
	t.Helper()
	distance := len(routes[0]) - 1
	from, to := routes[0][0], routes[0][distance]
	cells := slices.Concat(routes...)
	slices.Sort(cells)
	expect(t, named("DistanceBetween", from, to), results(impl.DistanceBetween(b, l, from, to)), distance, true)
	expect(t, named("FirstRoute", from, to), results(impl.FirstRoute(b, l, from, to)), routes[0], true)
	expect(t, named("CountRoutes", from, to), results(impl.CountRoutes(b, l, from, to)), len(routes), true)
	expect(t, named("CellsOnRoutes", from, to), results(impl.CellsOnRoutes(b, l, from, to)), slices.Compact(cells), true)
	expect(t, named("IsRoute the last", from, to), results(impl.IsRoute(b, l, routes[len(routes)-1])), true, true)
	if distance <= 12 {
		expect(t, named("CountPaths", from, to, distance), results(impl.CountPaths(b, l, from, to, distance)), len(routes), true)
	}
}

func TestCellsOfDifferentParts(t *testing.T) {
	onAll(t, func(t *testing.T, b impl.Board, l impl.Leaper, g graph) {
		from := g.cells[0]
		i := slices.IndexFunc(g.cells, func(cell int) bool { return g.far[from][cell] == never })
		if i < 0 {
			return
		}
		to := g.cells[i]
		for range 2 {
			expect(t, named("DistanceBetween", from, to), results(impl.DistanceBetween(b, l, from, to)), 0, false)
			expect(t, named("FirstRoute", from, to), results(impl.FirstRoute(b, l, from, to)), []int(nil), false)
			expect(t, named("CountRoutes", from, to), results(impl.CountRoutes(b, l, from, to)), 0, true)
			expect(t, named("CellsOnRoutes", from, to), results(impl.CellsOnRoutes(b, l, from, to)), []int(nil), true)
			expect(t, named("CountPaths", from, to), results(impl.CountPaths(b, l, from, to, 12)), 0, true)
			from, to = to, from
		}
	})
}

func TestPathsOfAllLeapers(t *testing.T) {
	random := numbers(4)
	onAll(t, func(t *testing.T, b impl.Board, l impl.Leaper, g graph) {
		from, leaps := g.cells[random.below(len(g.cells))], random.below(5)
		ends := map[int]int{}
		for _, path := range g.pathsFrom([]int{from}, leaps) {
			to := path[leaps]
			ends[to]++
			if random.below(len(ends)*len(ends)) == 0 {
				expect(t, "IsRoute", results(impl.IsRoute(b, l, path)), g.far[from][to] == leaps, true)
			}
		}
		for _, to := range some(&random, g.cells) {
			expect(t, named("CountPaths", from, to, leaps), results(impl.CountPaths(b, l, from, to, leaps)), ends[to], true)
			expect(t, named("CountPaths", to, from, leaps), results(impl.CountPaths(b, l, to, from, leaps)), ends[to], true)
		}
	})
}

// Paths of many leaps are those of half as many to each cell, times those onward from it.
func TestPathsOfManyLeaps(t *testing.T) {
	for _, b := range []impl.Board{plain(8, 8), plain(5, 5), holed(6, 7, 0, 8, 15, 16, 30)} {
		for _, l := range []impl.Leaper{knight, {A: 0, B: 1}, {A: 1, B: 1}, {A: 2, B: 3}} {
			cells := there(b)
			from, to := cells[3], cells[len(cells)-6]
			for leaps := 7; leaps <= 12; leaps++ {
				wanted := 0
				for _, by := range cells {
					first, _ := impl.CountPaths(b, l, from, by, 6)
					rest, _ := impl.CountPaths(b, l, by, to, leaps-6)
					wanted += first * rest
				}
				wants(t, named("CountPaths", from, to, leaps), results(impl.CountPaths(b, l, from, to, leaps)), wanted, true)
			}
		}
	}
}

func TestRoundsOfAllLeapers(t *testing.T) {
	lengths := map[int]bool{}
	onAll(t, func(t *testing.T, b impl.Board, l impl.Leaper, g graph) {
		round := g.shortestRound()
		lengths[len(round)] = true
		expect(t, "ShortestRound", results(impl.ShortestRound(b, l)), round, round != nil)
	})
	for _, length := range []int{0, 4, 6, 8} {
		if !lengths[length] {
			t.Error("no board was tried with the shortest round", length)
		}
	}
}
