package tests

import (
	"reflect"
	"slices"
	"testing"

	"loop.example/g01239/impl"
)

const junk = 777

// roomy has the elements of list, and spare capacity that is full of junk.
func roomy(list []int) []int {
	all := append(slices.Clone(list), slices.Repeat([]int{junk}, 8)...)
	return all[:len(list)]
}

// whole tells a slice with its spare capacity.
func whole(list []int) []int {
	return list[:cap(list)]
}

// slicesIn finds all slices of numbers in some results.
func slicesIn(v reflect.Value) [][]int {
	var found [][]int
	switch v.Kind() {
	case reflect.Slice:
		if list, ok := v.Interface().([]int); ok {
			return [][]int{list}
		}
		for i := range v.Len() {
			found = append(found, slicesIn(v.Index(i))...)
		}
	case reflect.Struct:
		for i := range v.NumField() {
			found = append(found, slicesIn(v.Field(i))...)
		}
	case reflect.Interface:
		return slicesIn(v.Elem())
	}
	return found
}

// listsOf points to the slices of an input.
func listsOf(in *input) []*[]int {
	return []*[]int{&in.board.Holes, &in.path, &in.numbers, &in.colours, &in.set, &in.field.Holes, &in.first, &in.second, &in.steps, &in.leap, &in.other, &in.round, &in.puzzle.Board.Holes, &in.puzzle.Numbers, &in.desk.Board.Holes, &in.desk.Walk}
}

// give gives the slices of an input spare capacity, and returns a function that tells whether they and it are as they were.
func give(in *input) func() bool {
	var given, before [][]int
	for _, list := range listsOf(in) {
		*list = roomy(*list)
		given = append(given, whole(*list))
		before = append(before, slices.Clone(whole(*list)))
	}
	return func() bool { return slices.EqualFunc(given, before, slices.Equal) }
}

// memoryInputs are valid for every function.
func memoryInputs() []input {
	full := goodInput()
	full.board, full.path, full.to, full.set = plain(4, 3), []int{0, 9, 2}, 6, []int{3, 4, 8}
	tour := goodInput()
	tour.board, tour.path, tour.to, tour.numbers = plain(2, 2), []int{2, 3, 1, 0}, 3, []int{2, 1, 0, 0}
	tour.set, tour.leaper, tour.index, tour.name, tour.text = []int{1}, impl.Leaper{A: 0, B: 1}, 0, "a2", "a1-b1"
	single := goodInput()
	single.board, single.leaper = onlyCell(8, 8, 63), impl.Leaper{A: 0, B: 5}
	single.from, single.to, single.path, single.name, single.text = 63, 63, []int{63}, "h8", "h8"
	single.numbers = append(make([]int, 63), 1)
	single.x, single.set = 5, []int{63}
	full.joined, full.start, full.goal, full.across, full.often = torus(12, 12), 143, 0, 5, 7
	tour.joined, tour.often = impl.Around{Wide: 4, High: 3, Across: true}, 3
	single.joined, single.start, single.goal = torus(1, 1), 0, 0
	full.puzzle, full.told = solutions200(), "0,5:#,1,#/#,#,#"
	tour.puzzle, tour.gap, tour.number, tour.rate, tour.told = puzzleOf(tour.leaper, "1 .", ". ."), 3, 3, 1, "0,1:1,./2,3"
	tour.known = 0
	single.puzzle, single.gap, single.number, single.rate = blank(onlyCell(8, 8, 63), knight), 63, 1, 20
	parts := goodInput()
	parts.board, parts.path, parts.to, parts.set = plain(3, 3), []int{0, 5, 6}, 8, []int{4, 5}
	blocks := tour
	blocks.index, blocks.wide, blocks.high, blocks.x, blocks.most = 1, 2, 2, 2, 0
	blocks.field, blocks.first, blocks.second = plain(4, 2), []int{0, 1, 5, 4}, []int{2, 3, 7, 6}
	blocks.from, blocks.steps = 0, []int{3, 2, 0}
	blocks.to, blocks.leap, blocks.other, blocks.round, blocks.around = 1, []int{0, 1}, []int{3, 2}, []int{4, 0, 1, 5}, 4
	blocks.puzzle, blocks.known = puzzleOf(knight, "1 4 7", "6 # 2", "3 8 5"), 8
	empty := goodInput()
	empty.path, empty.numbers, empty.text, empty.set, empty.steps = []int{}, []int{}, "", []int{}, []int{}
	empty.leap, empty.other, empty.round = []int{}, []int{}, []int{}
	empty.puzzle.Numbers, empty.told = []int{}, ""
	full.desk, full.line, full.script = deskOf(holed(8, 8, 9), tour.leaper, 1, 0, 8), "from a2", ""
	tour.desk, tour.line = deskOf(plain(3, 3), knight, 0, 5, 6), "hole b2"
	single.desk, single.line = deskOf(onlyCell(8, 8, 63), knight, 63), "back"
	parts.desk, parts.line = deskOf(holed(3, 3, 4), knight, ring...), "done"
	empty.desk.Walk, empty.line, empty.script = []int{}, "", ""
	inputs := []input{goodInput(), full, tour, single, parts, blocks, empty}
	for i := range inputs {
		inputs[i].colours = bySums(inputs[i].board)
	}
	return inputs
}

// leavesAlone fails the test if a call changes its arguments or what lies behind them.
func leavesAlone(t *testing.T, in input, calls []call) {
	t.Helper()
	unchanged := give(&in)
	for _, c := range calls {
		c.run(in)
		if !unchanged() {
			t.Fatal(c.name, "changed its arguments to", in)
		}
	}
}

func TestArgumentsAreLeftAlone(t *testing.T) {
	for _, in := range memoryInputs() {
		leavesAlone(t, in, allCalls())
	}
	for _, bad := range badInputs() {
		for _, in := range bad {
			leavesAlone(t, in, allCalls())
		}
	}
}

// isOwned fails the test if what is written to results shows in arguments, in other slices of the results, or in those of a later call.
func isOwned(t *testing.T, in input, calls []call) {
	t.Helper()
	unchanged := give(&in)
	for _, c := range calls {
		first := c.run(in)
		found := slicesIn(reflect.ValueOf(first))
		for i, list := range found {
			for j := range whole(list) {
				whole(list)[j] = -1000 - i
			}
		}
		for i, list := range found {
			for _, n := range whole(list) {
				if n != -1000-i {
					t.Fatal(c.name, "returned slices that share memory")
				}
			}
		}
		if !unchanged() {
			t.Fatal(c.name, "returned memory of its arguments")
		}
		clean := in
		for _, list := range listsOf(&clean) {
			*list = slices.Clip(slices.Clone(*list))
		}
		wants(t, c.name+" again, with no spare capacity,", c.run(in), c.run(clean)...)
		for _, list := range found {
			for _, n := range whole(list) {
				if n > -1000 {
					t.Fatal(c.name, "wrote to an earlier result")
				}
			}
		}
	}
}

func TestResultsHaveMemoryOfTheirOwn(t *testing.T) {
	for _, in := range memoryInputs() {
		isOwned(t, in, allCalls())
	}
}

func TestNilAndEmptyAreTheSame(t *testing.T) {
	null, empty := goodInput(), goodInput()
	for _, list := range listsOf(&null) {
		*list = nil
	}
	for _, list := range listsOf(&empty) {
		*list = []int{}
	}
	for _, c := range allCalls() {
		wants(t, c.name+" of empty slices", c.run(empty), c.run(null)...)
	}
}
