package tests

import (
	"math"
	"slices"
	"testing"

	"loop.example/g01239/impl"
)

var aroundCalls = []call{
	{"IsAround", "E", func(in input) []any { return results(impl.IsAround(in.joined)) }},
	{"StepAround", "EFQZ", func(in input) []any { return results(impl.StepAround(in.joined, in.start, in.across, in.above)) }},
	{"LeapsAround", "ElF", func(in input) []any { return results(impl.LeapsAround(in.joined, in.leaper, in.start)) }},
	{"CountLeapsAround", "El", func(in input) []any { return results(impl.CountLeapsAround(in.joined, in.leaper)) }},
	{"SameDegree", "ElZ", func(in input) []any { return results(impl.SameDegree(in.joined, in.leaper)) }},
	{"DistanceAround", "ElFYZ", func(in input) []any { return results(impl.DistanceAround(in.joined, in.leaper, in.start, in.goal)) }},
	{"CountByAround", "ElF", func(in input) []any { return results(impl.CountByAround(in.joined, in.leaper, in.start)) }},
	{"CountParts", "El", func(in input) []any { return results(impl.CountParts(in.joined, in.leaper)) }},
	{"OrbitOf", "EFQIZ", func(in input) []any { return results(impl.OrbitOf(in.joined, in.start, in.across, in.above)) }},
	{"OrbitLength", "EQIZ", func(in input) []any { return results(impl.OrbitLength(in.joined, in.across, in.above)) }},
	{"CountOrbits", "EQIZ", func(in input) []any { return results(impl.CountOrbits(in.joined, in.across, in.above)) }},
	{"TwoSteps", "ElV", func(in input) []any {
		return results(impl.TwoSteps(in.joined, in.leaper, in.often, in.seldom, in.every))
	}},
	{"VisitsAll", "ElV", func(in input) []any {
		return results(impl.VisitsAll(in.joined, in.leaper, in.often, in.seldom, in.every))
	}},
	{"FirstTwoSteps", "ElZ", func(in input) []any { return results(impl.FirstTwoSteps(in.joined, in.leaper)) }},
	{"TwoColoursAround", "El", func(in input) []any { return results(impl.TwoColoursAround(in.joined, in.leaper)) }},
}

// torus is the board around with both sides joined.
func torus(w int, h int) impl.Around {
	return impl.Around{Wide: w, High: h, Across: true, Upright: true}
}

// joinings are the boards around of one size: with no side joined, with one and with both.
func joinings(w int, h int) []impl.Around {
	return []impl.Around{{Wide: w, High: h}, {Wide: w, High: h, Across: true}, {Wide: w, High: h, Upright: true}, torus(w, h)}
}

// notAround are no boards around, but of a size of 0 or less, of more than 12, or for which the number of cells has no 64 bits.
func notAround() []impl.Around {
	var boards []impl.Around
	for _, n := range append([]int{0, -3, -4, 13, 14, 144, 1 << 31}, extremes...) {
		boards = slices.Concat(boards, joinings(n, 3), joinings(4, n), joinings(n, n))
	}
	return append(boards, torus(-4, -3), torus(math.MinInt64, math.MaxInt64), torus(1<<32, 1<<32), torus(1<<62+3, 4))
}

// beyond are the numbers that are not within a range.
func beyond(least int, most int, list ...int) []int {
	return slices.DeleteFunc(append(list, extremes...), func(n int) bool { return n >= least && n <= most })
}

// addBadAround adds what chapter 8 forbids: what is no board around (E), cells that it has not to start from (F) and to come to (Y), steps that are too great (Q), orbits of boards without both sides joined (I), no indices of steps, or turns (V), and boards on which there is no such step, way, degree or two steps (Z).
func addBadAround(add func(letter string, change func(in *input))) {
	for _, a := range notAround() {
		add("E", func(in *input) { in.joined = a })
		add("E", func(in *input) { in.joined, in.start, in.goal, in.across, in.above = a, 0, 0, 0, 0 })
	}
	for _, n := range append([]int{12, 13, 15, 143, 144}, extremes...) {
		add("F", func(in *input) { in.start = n })
		add("F", func(in *input) { in.start, in.goal = n, n })
		add("Y", func(in *input) { in.goal = n })
	}
	for _, n := range beyond(-20, 20, 21, -21, 24, -24, 25) {
		add("Q", func(in *input) { in.across = n })
		add("Q", func(in *input) { in.above = n })
		add("Q", func(in *input) { in.across, in.above = n, n })
	}
	for _, a := range joinings(4, 3)[:3] {
		add("I", func(in *input) { in.joined = a })
		add("I", func(in *input) { in.joined, in.across, in.above = a, 0, 0 })
	}
	for _, n := range beyond(0, 7, 8, 9) {
		add("V", func(in *input) { in.often = n })
		add("V", func(in *input) { in.seldom = n })
		add("V", func(in *input) { in.often, in.seldom = n, n })
	}
	for _, l := range []impl.Leaper{single, {A: 0, B: 5}, {A: 3, B: 3}} { // four steps
		add("V", func(in *input) { in.leaper, in.often = l, 4 })
		add("V", func(in *input) { in.leaper, in.seldom = l, 7 })
	}
	for _, n := range beyond(2, 150, 0, 1, 151, 152) {
		add("V", func(in *input) { in.every = n })
	}
	add("Z", func(in *input) { in.joined, in.start, in.goal = impl.Around{Wide: 3, High: 3}, 0, 4 })
	add("Z", func(in *input) {
		in.leaper, in.joined, in.start, in.goal, in.above = double, impl.Around{Wide: 5, High: 1, Upright: true}, 4, 3, 0
	})
	add("Z", func(in *input) {
		in.leaper, in.joined, in.start, in.goal, in.across = double, impl.Around{Wide: 1, High: 5, Across: true}, 0, 1, 0
	})
}

// A board around may be one cell, or of 12 columns or rows, and no greater.
func TestSizesOfBoardsAround(t *testing.T) {
	wants(t, "the limit", results(impl.MaxAround), 12)
	for w := -1; w <= 14; w++ {
		for h := -1; h <= 14; h++ {
			for _, a := range joinings(w, h) {
				isAround := w >= 1 && w <= 12 && h >= 1 && h <= 12
				wants(t, named("IsAround", w, h), results(impl.IsAround(a)), isAround)
				_, ok := impl.CountParts(a, knight)
				wants(t, named("CountParts", w, h), results(ok), isAround)
			}
		}
	}
	for _, a := range notAround() {
		wants(t, "IsAround", results(impl.IsAround(a)), false)
		wants(t, "StepAround", results(impl.StepAround(a, 0, 0, 0)), 0, false)
	}
}

func TestHowGreatStepsAroundAre(t *testing.T) {
	for _, n := range []int{20, -20} {
		wants(t, named("StepAround", n, -n), results(impl.StepAround(torus(12, 12), 0, n, -n)), modulo(-n, 12)*12+modulo(n, 12), true)
		wants(t, named("StepAround", n, -n), results(impl.StepAround(torus(1, 1), 0, n, -n)), 0, true)
		wants(t, named("OrbitOf", n, n), results(impl.OrbitOf(torus(2, 2), 3, n, n)), []int{3}, true)
		wants(t, named("OrbitLength", n, 0), results(impl.OrbitLength(torus(12, 12), n, 0)), 3, true)
		wants(t, named("CountOrbits", 0, n), results(impl.CountOrbits(torus(12, 12), 0, n)), 48, true)
	}
	for _, n := range beyond(-20, 20, 21, -21, 24, -24, 36, 144, -144) {
		for _, x := range []int{0, n} {
			for _, y := range []int{n, n - x} {
				wants(t, named("StepAround", x, y), results(impl.StepAround(torus(12, 12), 0, x, y)), 0, false)
				wants(t, named("OrbitOf", x, y), results(impl.OrbitOf(torus(12, 12), 0, x, y)), []int(nil), false)
				wants(t, named("OrbitLength", x, y), results(impl.OrbitLength(torus(1, 1), x, y)), 0, false)
				wants(t, named("CountOrbits", y, x), results(impl.CountOrbits(torus(1, 1), y, x)), 0, false)
			}
		}
	}
}

func TestHowManyTurns(t *testing.T) {
	a, list := impl.Around{Wide: 1, High: 3, Upright: true}, []int{0, 1, 2}
	for turns := -3; turns <= 160; turns++ {
		ok := turns >= 2 && turns <= 150
		for index := -1; index <= 5; index++ {
			fine := ok && index >= 0 && index <= 3
			wants(t, named("VisitsAll", index, turns), results(impl.VisitsAll(torus(1, 1), single, index, index, turns)), fine, fine)
		}
		if !ok {
			wants(t, named("TwoSteps", turns), results(impl.TwoSteps(a, single, 2, 2, turns)), []int(nil), false)
			continue
		}
		wants(t, named("TwoSteps", turns), results(impl.TwoSteps(a, single, 2, 2, turns)), list, true)
	}
}

// Steps have the indices that they have in StepsOf: 0 to 3 of four, and 0 to 7 of eight.
func TestIndicesOfStepsAround(t *testing.T) {
	for _, l := range allLeapers() {
		steps, _ := impl.StepsOf(l)
		for first := -2; first <= 9; first++ {
			for second := -2; second <= 9; second++ {
				isIndex := min(first, second) >= 0 && max(first, second) < len(steps)
				_, ok := impl.TwoSteps(torus(5, 4), l, first, second, 3)
				_, fine := impl.VisitsAll(torus(5, 4), l, first, second, 3)
				wants(t, named("TwoSteps and VisitsAll", l.A, l.B, first, second), results(ok, fine), isIndex, isIndex)
			}
		}
		for first := range steps {
			to, _ := impl.StepAround(torus(12, 12), 0, steps[first][0], steps[first][1])
			list, _ := impl.TwoSteps(torus(12, 12), l, first, first, 2)
			wants(t, named("the first step", l.A, l.B, first), results(list[1]), to)
		}
	}
}
