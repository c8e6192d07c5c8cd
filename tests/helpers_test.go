package tests

import (
	"reflect"
	"slices"
	"strconv"
	"testing"

	"loop.example/g01239/impl"
)

var knight = impl.Leaper{A: 1, B: 2}

// numbers gives the same numbers in each run, so that a failure comes again.
type numbers uint32

func (n *numbers) below(limit int) int {
	*n = *n*1664525 + 1013904223
	return int(*n>>8) % limit
}

func plain(w int, h int) impl.Board {
	return impl.Board{Wide: w, High: h}
}

func holed(w int, h int, holes ...int) impl.Board {
	return impl.Board{Wide: w, High: h, Holes: holes}
}

// onlyCell is the board of w by h cells of which one is there.
func onlyCell(w int, h int, cell int) impl.Board {
	b := plain(w, h)
	for other := range w * h {
		if other != cell {
			b.Holes = append(b.Holes, other)
		}
	}
	return b
}

// manyBoards has for each size the board without holes, one with some holes, and one with a single cell.
func manyBoards() []impl.Board {
	var boards []impl.Board
	random := numbers(1)
	for w := 1; w <= 8; w++ {
		for h := 1; h <= 8; h++ {
			some := plain(w, h)
			for cell := range w*h - 1 {
				if random.below(4) == 0 {
					some.Holes = append(some.Holes, cell)
				}
			}
			boards = append(boards, plain(w, h), some, onlyCell(w, h, random.below(w*h)))
		}
	}
	return boards
}

func allLeapers() []impl.Leaper {
	var leapers []impl.Leaper
	for b := 1; b <= 5; b++ {
		for a := 0; a <= b; a++ {
			leapers = append(leapers, impl.Leaper{A: a, B: b})
		}
	}
	return leapers
}

func isHole(b impl.Board, cell int) bool {
	return slices.Contains(b.Holes, cell)
}

// there has the cells of a board by the definition alone.
func there(b impl.Board) []int {
	var cells []int
	for cell := range b.Wide * b.High {
		if !isHole(b, cell) {
			cells = append(cells, cell)
		}
	}
	return cells
}

func distance(m int, n int) int {
	if m < n {
		return n - m
	}
	return m - n
}

// leaps tells by the definition alone whether there is a leap between two cells.
func leaps(b impl.Board, l impl.Leaper, from int, to int) bool {
	x := distance(from%b.Wide, to%b.Wide)
	y := distance(from/b.Wide, to/b.Wide)
	return !isHole(b, from) && !isHole(b, to) && (x == l.A && y == l.B || x == l.B && y == l.A)
}

// same compares results; a nil slice and an empty one are the same value.
func same(p any, q any) bool {
	return reflect.DeepEqual(bare(reflect.ValueOf(p)), bare(reflect.ValueOf(q)))
}

// bare tells a value without the difference of nil and empty slices.
func bare(v reflect.Value) any {
	switch v.Kind() {
	case reflect.Slice:
		list := []any{}
		for i := range v.Len() {
			list = append(list, bare(v.Index(i)))
		}
		return list
	case reflect.Struct:
		fields := []any{}
		for i := range v.NumField() {
			fields = append(fields, bare(v.Field(i)))
		}
		return fields
	case reflect.Interface:
		return bare(v.Elem())
	}
	return v.Interface()
}

// zeros are zero values of the types of some results.
func zeros(results []any) []any {
	var list []any
	for _, r := range results {
		list = append(list, reflect.Zero(reflect.TypeOf(r)).Interface())
	}
	return list
}

// results gathers what a call returns.
func results(list ...any) []any {
	return list
}

// expect fails the test unless a call returned just what is listed behind its name.
func expect(t *testing.T, name string, got []any, wanted ...any) {
	t.Helper()
	if !same(got, wanted) {
		t.Errorf("%s returned %v, not %v", name, got, wanted)
	}
}

// wants ends the test unless a call returned just what is listed behind its name.
func wants(t *testing.T, name string, got []any, wanted ...any) {
	t.Helper()
	if !same(got, wanted) {
		t.Fatalf("%s returned %v, not %v", name, got, wanted)
	}
}

// named tells a call and its arguments.
func named(name string, arguments ...int) string {
	for _, a := range arguments {
		name += " " + strconv.Itoa(a)
	}
	return name
}
