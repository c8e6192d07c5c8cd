package tests

import (
	"runtime"
	"slices"
	"testing"

	"loop.example/g01239/impl"
)

func TestAroundExample(t *testing.T) {
	a := torus(3, 3)
	wants(t, "LeapsAround", results(impl.LeapsAround(a, knight, 0)), []int{4, 5, 7, 8}, true)
	wants(t, "OrbitOf", results(impl.OrbitOf(a, 0, 1, 2)), []int{0, 7, 5}, true)
	wants(t, "CountOrbits", results(impl.CountOrbits(a, 1, 2)), 3, true)
	wants(t, "OrbitLength", results(impl.OrbitLength(torus(5, 5), 1, 2)), 5, true)
	wants(t, "TwoColoursAround", results(impl.TwoColoursAround(a, single)), false, true)
	wants(t, "TwoColoursAround", results(impl.TwoColoursAround(torus(4, 4), single)), true, true)
}

// A board of one cell has no leap, whatever is joined, but steps to this cell.
func TestOneCellAround(t *testing.T) {
	for _, a := range joinings(1, 1) {
		for _, l := range allLeapers() {
			wants(t, "LeapsAround", results(impl.LeapsAround(a, l, 0)), []int(nil), true)
			wants(t, "CountLeapsAround", results(impl.CountLeapsAround(a, l)), 0, true)
			wants(t, "SameDegree", results(impl.SameDegree(a, l)), 0, true)
			wants(t, "DistanceAround", results(impl.DistanceAround(a, l, 0, 0)), 0, true)
			wants(t, "CountByAround", results(impl.CountByAround(a, l, 0)), []int{1}, true)
			wants(t, "CountParts", results(impl.CountParts(a, l)), 1, true)
			wants(t, "TwoSteps", results(impl.TwoSteps(a, l, 0, 3, 2)), []int{0}, true)
			wants(t, "VisitsAll", results(impl.VisitsAll(a, l, 3, 1, 150)), true, true)
			wants(t, "FirstTwoSteps", results(impl.FirstTwoSteps(a, l)), 0, 0, 2, true)
			wants(t, "TwoColoursAround", results(impl.TwoColoursAround(a, l)), true, true)
		}
		wants(t, "StepAround", results(impl.StepAround(a, 0, 0, 0)), 0, true)
		wants(t, "StepAround across", results(impl.StepAround(a, 0, 7, 0)), 0, a.Across)
		wants(t, "StepAround upright", results(impl.StepAround(a, 0, 0, -20)), 0, a.Upright)
		wants(t, "StepAround over both", results(impl.StepAround(a, 0, -1, 13)), 0, a.Across && a.Upright)
		wants(t, "DistanceAround", results(impl.DistanceAround(a, knight, 0, 1)), 0, false)
	}
	for _, step := range [][2]int{{0, 0}, {1, 0}, {0, -1}, {20, -20}, {-7, 13}} {
		wants(t, named("OrbitOf", step[:]...), results(impl.OrbitOf(torus(1, 1), 0, step[0], step[1])), []int{0}, true)
		wants(t, named("OrbitLength", step[:]...), results(impl.OrbitLength(torus(1, 1), step[0], step[1])), 1, true)
		wants(t, named("CountOrbits", step[:]...), results(impl.CountOrbits(torus(1, 1), step[0], step[1])), 1, true)
	}
}

func TestStepsAround(t *testing.T) {
	across, upright := impl.Around{Wide: 5, High: 3, Across: true}, impl.Around{Wide: 5, High: 3, Upright: true}
	cases := []struct {
		what   string
		board  impl.Around
		cell   int
		x      int
		y      int
		to     int
		exists bool
	}{
		{"within", impl.Around{Wide: 5, High: 3}, 0, 4, 2, 14, true},
		{"of no cells", impl.Around{Wide: 5, High: 3}, 7, 0, 0, 7, true},
		{"over the right side", impl.Around{Wide: 5, High: 3}, 4, 1, 0, 0, false},
		{"over the left side", impl.Around{Wide: 5, High: 3}, 5, -1, 0, 0, false},
		{"over the upper side", impl.Around{Wide: 5, High: 3}, 14, 0, 1, 0, false},
		{"over the lower side", impl.Around{Wide: 5, High: 3}, 3, 0, -1, 0, false},
		{"over the joined right side", across, 9, 1, 0, 5, true},
		{"over the joined left side", across, 5, -1, 1, 14, true},
		{"over the upper side, which is not joined", across, 14, 1, 1, 0, false},
		{"over the lower side, which is not joined", across, 0, 0, -1, 0, false},
		{"over the joined upper side", upright, 14, 0, 1, 4, true},
		{"over the joined lower side", upright, 0, 2, -1, 12, true},
		{"over the right side, which is not joined", upright, 14, 1, 0, 0, false},
		{"over the left side, which is not joined", upright, 0, -5, 0, 0, false},
		{"over the corner", torus(5, 3), 14, 1, 1, 0, true},
		{"over the corner back", torus(5, 3), 0, -1, -1, 14, true},
		{"once around across", torus(5, 3), 7, 5, 0, 7, true},
		{"once around upright", torus(5, 3), 7, 0, -3, 7, true},
		{"twice around and on", torus(5, 3), 7, 11, 0, 8, true},
		{"four times around back", torus(5, 3), 7, -20, 0, 7, true},
		{"six times around upright and on", torus(5, 3), 7, 0, 20, 2, true},
		{"six times around upright back", torus(5, 3), 7, 0, -20, 12, true},
		{"twenty times around", torus(1, 12), 11, 20, 1, 0, true},
		{"twenty times around back", torus(12, 1), 0, -1, -20, 11, true},
		{"more than once around, but not joined upright", across, 7, 20, 2, 0, false},
		{"more than once around, but not joined across", upright, 7, -3, 18, 0, false},
		{"more than once around across", across, 7, -19, 1, 13, true},
		{"more than once around upright", upright, 7, 2, -19, 4, true},
	}
	for _, c := range cases {
		wants(t, "StepAround "+c.what, results(impl.StepAround(c.board, c.cell, c.x, c.y)), c.to, c.exists)
	}
}

// With no side joined the board is like one of chapter 1 without holes.
func TestNoSideJoined(t *testing.T) {
	for w := 1; w <= 8; w++ {
		for h := 1; h <= 8; h++ {
			for _, l := range allLeapers() {
				a, b, cell := impl.Around{Wide: w, High: h}, plain(w, h), w*h/2
				wants(t, "LeapsAround", results(impl.LeapsAround(a, l, cell)), results(impl.LeapsFrom(b, l, cell))...)
				wants(t, "CountLeapsAround", results(impl.CountLeapsAround(a, l)), results(impl.CountLeaps(b, l))...)
				wants(t, "DistanceAround", results(impl.DistanceAround(a, l, cell, 0)), results(impl.DistanceBetween(b, l, cell, 0))...)
				wants(t, "CountByAround", results(impl.CountByAround(a, l, cell)), results(impl.CountByDistance(b, l, cell))...)
				parts, ok := impl.PartsOfBoard(b, l)
				wants(t, "CountParts", results(impl.CountParts(a, l)), len(parts), ok)
				wants(t, "TwoColoursAround", results(impl.TwoColoursAround(a, l)), true, true)
			}
		}
	}
}

// joinedLeaps tells what one leaper has on one board around: leaps from a cell and in all, whether all cells have the same degree, how many cells have which distance, parts, and whether there are two colours.
type joinedLeaps struct {
	board  impl.Around
	l      impl.Leaper
	cell   int
	to     []int
	pairs  int
	even   bool
	counts []int
	parts  int
	two    bool
}

func TestLeapsAround(t *testing.T) {
	cases := []joinedLeaps{
		{impl.Around{Wide: 3, High: 3}, knight, 4, nil, 8, false, []int{1}, 2, true},
		{impl.Around{Wide: 4, High: 3, Across: true}, knight, 0, []int{6, 9, 11}, 16, false, []int{1, 3, 4, 3, 1}, 1, true},
		{impl.Around{Wide: 4, High: 3, Upright: true}, knight, 0, []int{5, 6, 9, 10}, 30, false, []int{1, 4, 7}, 1, false},
		{torus(4, 3), knight, 0, []int{5, 6, 7, 9, 10, 11}, 36, true, []int{1, 6, 5}, 1, false},
		{torus(4, 4), knight, 5, []int{3, 11, 12, 14}, 32, true, []int{1, 4, 6, 4, 1}, 1, true}, // two steps lead to each
		{torus(2, 2), knight, 3, []int{1, 2}, 4, true, []int{1, 2, 1}, 1, true},
		{torus(2, 2), single, 0, []int{1, 2}, 4, true, []int{1, 2, 1}, 1, true},
		{torus(2, 2), double, 0, nil, 0, true, []int{1}, 4, true}, // all steps lead back to the cell itself
		{torus(2, 4), double, 1, []int{5}, 4, true, []int{1, 1}, 4, true},
		{torus(5, 5), impl.Leaper{A: 0, B: 5}, 12, nil, 0, true, []int{1}, 25, true},
		{torus(5, 1), impl.Leaper{A: 5, B: 5}, 2, nil, 0, true, []int{1}, 5, true},
		{torus(1, 5), knight, 0, []int{1, 2, 3, 4}, 10, true, []int{1, 4}, 1, false},
		{torus(3, 1), impl.Leaper{A: 4, B: 5}, 1, []int{0, 2}, 3, true, []int{1, 2}, 1, false}, // steps around more than once
		{impl.Around{Wide: 2, High: 1, Upright: true}, knight, 1, []int{0}, 1, true, []int{1, 1}, 1, true},
		{impl.Around{Wide: 2, High: 1, Across: true}, knight, 1, nil, 0, true, []int{1}, 2, true},
		{impl.Around{Wide: 1, High: 3, Across: true}, knight, 0, []int{1, 2}, 3, true, []int{1, 2}, 1, false},
		{impl.Around{Wide: 4, High: 3, Upright: true}, double, 0, []int{2, 4, 8}, 18, true, []int{1, 3, 2}, 2, false},
		{torus(12, 12), knight, 143, []int{1, 9, 12, 22, 108, 118, 121, 129}, 576, true, []int{1, 8, 32, 60, 39, 4}, 1, true},
		{torus(12, 12), single, 0, []int{1, 11, 12, 132}, 288, true, []int{1, 4, 8, 12, 16, 20, 22, 20, 16, 12, 8, 4, 1}, 1, true},
		{impl.Around{Wide: 12, High: 12}, single, 143, []int{131, 142}, 264, false, []int{1, 2, 3, 4, 5, 6, 7, 8, 9, 10, 11, 12, 11, 10, 9, 8, 7, 6, 5, 4, 3, 2, 1}, 1, true},
	}
	for _, c := range cases {
		degree := 0
		if c.even {
			degree = len(c.to)
		}
		wants(t, "LeapsAround", results(impl.LeapsAround(c.board, c.l, c.cell)), c.to, true)
		wants(t, "CountLeapsAround", results(impl.CountLeapsAround(c.board, c.l)), c.pairs, true)
		wants(t, "SameDegree", results(impl.SameDegree(c.board, c.l)), degree, c.even)
		wants(t, "CountByAround", results(impl.CountByAround(c.board, c.l, c.cell)), c.counts, true)
		wants(t, "CountParts", results(impl.CountParts(c.board, c.l)), c.parts, true)
		wants(t, "TwoColoursAround", results(impl.TwoColoursAround(c.board, c.l)), c.two, true)
	}
}

func TestDistancesAround(t *testing.T) {
	cases := []struct {
		board impl.Around
		l     impl.Leaper
		from  int
		to    int
		leaps int
		way   bool
	}{
		{torus(3, 3), knight, 0, 0, 0, true},
		{torus(3, 3), knight, 0, 8, 1, true},
		{torus(3, 3), knight, 0, 1, 2, true},
		{impl.Around{Wide: 3, High: 3}, knight, 0, 8, 4, true},
		{impl.Around{Wide: 3, High: 3}, knight, 0, 4, 0, false},
		{impl.Around{Wide: 3, High: 3}, knight, 4, 4, 0, true},
		{impl.Around{Wide: 12, High: 12}, single, 0, 143, 22, true},
		{impl.Around{Wide: 12, High: 12, Across: true}, single, 0, 143, 12, true},
		{torus(12, 12), single, 0, 143, 2, true},
		{torus(12, 12), single, 0, 78, 12, true},
		{torus(12, 12), double, 0, 1, 0, false},
		{torus(11, 12), double, 0, 1, 5, true},
		{torus(11, 12), double, 0, 10, 5, true},
		{torus(11, 12), double, 0, 11, 0, false},
	}
	for _, c := range cases {
		wants(t, named("DistanceAround", c.from, c.to), results(impl.DistanceAround(c.board, c.l, c.from, c.to)), c.leaps, c.way)
		wants(t, named("DistanceAround", c.to, c.from), results(impl.DistanceAround(c.board, c.l, c.to, c.from)), c.leaps, c.way)
	}
}

func TestOrbits(t *testing.T) {
	cases := []struct {
		board impl.Around
		x     int
		y     int
		orbit []int
	}{
		{torus(3, 3), 1, 2, []int{0, 7, 5}},
		{torus(3, 3), 1, 2, []int{4, 2, 6}},
		{torus(3, 3), -1, -2, []int{0, 5, 7}},
		{torus(3, 3), 0, 0, []int{8}},
		{torus(3, 3), 3, -18, []int{8}},
		{torus(3, 3), 20, 0, []int{6, 8, 7}},
		{torus(2, 2), 1, 1, []int{1, 2}},
		{torus(4, 3), 1, 0, []int{5, 6, 7, 4}},
		{torus(4, 3), 0, 1, []int{5, 9, 1}},
		{torus(4, 3), 2, 0, []int{5, 7}},
		{torus(4, 3), 1, 1, []int{0, 5, 10, 3, 4, 9, 2, 7, 8, 1, 6, 11}},
		{torus(4, 3), -2, 1, []int{3, 5, 11, 1, 7, 9}},
		{torus(6, 4), 2, 2, []int{0, 14, 4, 12, 2, 16}},
		{torus(12, 1), 5, 0, []int{0, 5, 10, 3, 8, 1, 6, 11, 4, 9, 2, 7}},
		{torus(1, 12), 20, -20, []int{1, 5, 9}},
	}
	for _, c := range cases {
		length := len(c.orbit)
		for i, cell := range c.orbit {
			spun := slices.Concat(c.orbit[i:], c.orbit[:i])
			wants(t, named("OrbitOf", cell, c.x, c.y), results(impl.OrbitOf(c.board, cell, c.x, c.y)), spun, true)
		}
		wants(t, named("OrbitLength", c.x, c.y), results(impl.OrbitLength(c.board, c.x, c.y)), length, true)
		wants(t, named("CountOrbits", c.x, c.y), results(impl.CountOrbits(c.board, c.x, c.y)), c.board.Wide*c.board.High/length, true)
	}
	wants(t, "OrbitLength", results(impl.OrbitLength(torus(11, 12), 1, 1)), 132, true)
	wants(t, "CountOrbits", results(impl.CountOrbits(torus(12, 12), 12, 0)), 144, true)
}

func TestOrbitsNeedBothSides(t *testing.T) {
	for _, a := range joinings(3, 3)[:3] {
		for _, step := range [][2]int{{0, 0}, {1, 0}, {0, 1}, {3, 3}} {
			wants(t, "OrbitOf", results(impl.OrbitOf(a, 0, step[0], step[1])), []int(nil), false)
			wants(t, "OrbitLength", results(impl.OrbitLength(a, step[0], step[1])), 0, false)
			wants(t, "CountOrbits", results(impl.CountOrbits(a, step[0], step[1])), 0, false)
		}
	}
}

// Whatever works on an orbit side by side has ended, and has left nothing behind that differs from call to call.
func TestOrbitsAgainAndAgain(t *testing.T) {
	before := runtime.NumGoroutine()
	wanted, _ := impl.OrbitOf(torus(11, 12), 7, 3, 5)
	orbits := make(chan []int)
	for range 8 {
		go func() {
			for range 200 {
				orbit, _ := impl.OrbitOf(torus(11, 12), 7, 3, 5)
				orbits <- orbit
			}
		}()
	}
	for range 1600 {
		wants(t, "OrbitOf", results(<-orbits), wanted)
	}
	for range 100000 {
		if runtime.NumGoroutine() <= before {
			return
		}
		runtime.Gosched()
	}
	t.Error("there are still", runtime.NumGoroutine(), "goroutines of", before)
}

func TestTwoSteps(t *testing.T) {
	cases := []struct {
		what   string
		board  impl.Around
		l      impl.Leaper
		first  int
		second int
		turns  int
		cells  []int
		all    bool
	}{
		{"over all cells", torus(3, 3), single, 3, 2, 3, []int{0, 1, 2, 5, 3, 4, 7, 8, 6}, true},
		{"back to the first cell", torus(3, 3), single, 3, 2, 4, []int{0, 1, 2}, false},
		{"by turns", torus(3, 3), single, 3, 2, 2, []int{0, 1, 4, 5, 8, 6}, false},
		{"by turns with the steps exchanged", torus(3, 3), single, 2, 3, 2, []int{0, 3, 4, 7, 8, 2}, false},
		{"to and fro", torus(3, 3), single, 3, 0, 2, []int{0, 1}, false},
		{"back to a cell behind the first one", torus(4, 3), single, 3, 1, 4, []int{0, 1, 2, 3, 11, 8, 9, 10, 6, 7, 4, 5}, true},
		{"of one kind", torus(3, 3), single, 3, 3, 2, []int{0, 1, 2}, false},
		{"of one kind over all cells", torus(3, 4), impl.Leaper{A: 1, B: 1}, 3, 3, 7, []int{0, 4, 8, 9, 1, 5, 6, 10, 2, 3, 7, 11}, true},
		{"that lead back to the cell itself", torus(3, 2), double, 2, 0, 5, []int{0}, false},
		{"out at once", impl.Around{Wide: 3, High: 3}, single, 0, 3, 2, []int{0}, false},
		{"out by the first one", impl.Around{Wide: 3, High: 2}, single, 3, 2, 4, []int{0, 1, 2}, false},
		{"out by the second one", impl.Around{Wide: 3, High: 2}, single, 3, 1, 2, []int{0, 1}, false},
		{"up to the corner", impl.Around{Wide: 4, High: 2}, single, 3, 2, 4, []int{0, 1, 2, 3, 7}, false},
		{"along a row", impl.Around{Wide: 12, High: 1}, single, 3, 0, 150, up(0, 12), true},
		{"along a row that ends before the other step", impl.Around{Wide: 12, High: 1}, single, 3, 0, 12, up(0, 12), true},
		{"along a row up to the other step", impl.Around{Wide: 12, High: 1}, single, 3, 0, 11, up(0, 11), false},
		{"over the joined side", impl.Around{Wide: 3, High: 2, Across: true}, single, 0, 2, 3, []int{0, 2, 1, 4, 3, 5}, true},
		{"of a knight", torus(3, 3), knight, 0, 1, 3, []int{0, 7, 5, 6, 4, 2, 3, 1, 8}, true},
	}
	for _, c := range cases {
		wants(t, "TwoSteps "+c.what, results(impl.TwoSteps(c.board, c.l, c.first, c.second, c.turns)), c.cells, true)
		wants(t, "VisitsAll "+c.what, results(impl.VisitsAll(c.board, c.l, c.first, c.second, c.turns)), c.all, true)
	}
}

func TestFirstTwoSteps(t *testing.T) {
	cases := []struct {
		board  impl.Around
		l      impl.Leaper
		first  int
		second int
		turns  int
		exist  bool
	}{
		{torus(3, 3), knight, 0, 1, 3, true},
		{torus(2, 2), knight, 0, 2, 2, true},
		{torus(4, 3), impl.Leaper{A: 1, B: 1}, 0, 0, 2, true},
		{torus(3, 1), single, 0, 0, 2, true},
		{torus(1, 3), single, 1, 0, 3, true}, // the step 0 leads back to the cell itself
		{impl.Around{Wide: 1, High: 3}, single, 2, 0, 3, true},
		{impl.Around{Wide: 2, High: 1}, single, 3, 0, 2, true},
		{impl.Around{Wide: 4, High: 3, Across: true}, knight, 1, 2, 3, true},
		{impl.Around{Wide: 3, High: 3, Upright: true}, knight, 4, 0, 3, true},
		{torus(10, 9), knight, 0, 2, 45, true},
		{torus(10, 11), knight, 2, 2, 2, true},                   // 0, 2, 55 comes before, but has too many turns
		{torus(11, 10), impl.Leaper{A: 2, B: 5}, 2, 0, 22, true}, // so does this
		{torus(12, 12), double, 0, 0, 0, false},
		{torus(12, 12), impl.Leaper{A: 1, B: 1}, 0, 0, 0, false},
		{torus(4, 3), double, 0, 0, 0, false},
		{impl.Around{Wide: 2, High: 2}, single, 0, 0, 0, false},
		{impl.Around{Wide: 3, High: 3}, knight, 0, 0, 0, false},
		{impl.Around{Wide: 2, High: 1}, knight, 0, 0, 0, false},
	}
	for _, c := range cases {
		wants(t, "FirstTwoSteps", results(impl.FirstTwoSteps(c.board, c.l)), c.first, c.second, c.turns, c.exist)
	}
	wants(t, "VisitsAll with too many turns", results(impl.VisitsAll(torus(10, 11), knight, 0, 2, 55)), true, true)
	wants(t, "VisitsAll with too many turns", results(impl.VisitsAll(torus(11, 10), impl.Leaper{A: 2, B: 5}, 0, 2, 55)), true, true)
}
