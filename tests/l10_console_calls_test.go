package tests

import (
	"reflect"
	"slices"
	"strings"
	"testing"

	"loop.example/g01239/impl"
)

var consoleCalls = []call{
	{"FirstDesk", "", func(in input) []any { return results(impl.FirstDesk(), true) }},
	{"IsDesk", "@", func(in input) []any { return results(impl.IsDesk(in.desk)) }},
	{"DeskLine", "@&", func(in input) []any { return results(impl.DeskLine(in.desk, in.line)) }},
	{"RunScript", "#", func(in input) []any { return results(impl.RunScript(in.script)) }},
	{"DeskAfter", "#", func(in input) []any { return results(impl.DeskAfter(in.script)) }},
	{"FailedLines", "#", func(in input) []any { return results(impl.FailedLines(in.script)) }},
}

func deskOf(b impl.Board, l impl.Leaper, walk ...int) impl.Desk {
	return impl.Desk{Board: b, Leaper: l, Walk: walk}
}

// ringDesk is the desk of the cells without the middle, with a part of their round.
func ringDesk() impl.Desk {
	return deskOf(holed(3, 3, 4), knight, 0, 5, 6)
}

// lines is the script of some lines.
func lines(list ...string) string {
	text := ""
	for _, line := range list {
		text += line + "\n"
	}
	return text
}

// noDesks have just one part each that desks may not have.
func noDesks() []impl.Desk {
	var list []impl.Desk
	for _, b := range badBoards() {
		list = append(list, deskOf(b, knight), deskOf(b, knight, 0))
	}
	for _, l := range badLeapers() {
		list = append(list, deskOf(plain(4, 3), l), deskOf(plain(4, 3), l, 0))
	}
	for _, walk := range [][]int{{0, 0}, {0, 1}, {0, 5, 0}, {0, 5, 6, 5}, {4}, {0, 5, 6, 4}, {1, 6, 5, 0, 4}, append(slices.Clone(ring), 0), slices.Repeat(ring, 8), slices.Repeat(ring, 9), make([]int, 64), make([]int, 1000)} {
		list = append(list, deskOf(holed(3, 3, 4), knight, walk...))
	}
	for _, n := range append([]int{4, 9, 16}, extremes...) {
		list = append(list, deskOf(holed(3, 3, 4), knight, n), deskOf(holed(3, 3, 4), knight, n, 5), deskOf(holed(3, 3, 4), knight, 0, n), deskOf(holed(3, 3, 4), knight, 0, 5, n))
	}
	long := slices.Concat(snake(8, 8), []int{48})
	return append(list, deskOf(plain(8, 8), single, long...), deskOf(plain(8, 8), impl.Leaper{A: 1, B: 1}, 0, 1), deskOf(plain(3, 3), knight, 0, 2))
}

// snake is the tour of the rows, each second one backwards.
func snake(w int, h int) []int {
	var walk []int
	for y := range h {
		row := up(y*w, w)
		if y%2 == 1 {
			row = backwards(row)
		}
		walk = append(walk, row...)
	}
	return walk
}

// noLines are no lines: with a newline, or too long.
func noLines() []string {
	list := []string{"\n", "cells\n", "\ncells", "cells\n\n", "go\na1", "cells\ncells", "what\n", "\r\n"}
	for _, part := range []string{"c", " ", "\x00", "\xff", "7"} {
		list = append(list, strings.Repeat(part, 3001), strings.Repeat(part, 2999)+"\n", "go "+strings.Repeat(part, 2998), strings.Repeat(part, 100000))
	}
	return append(list, "cells"+strings.Repeat(" ", 2996), strings.Repeat("a1-", 1000)+"a1")
}

// noScripts are no scripts: with no newline at their end, with too many lines, or too long.
func noScripts() []string {
	list := []string{"cells", "c", " ", "\x00", "\r", "cells\ncells", "\ncells", "\n ", "\n\n\x00", "cells\r", "cells\ngo a1\nshow", strings.Repeat("cells\n", 49) + "cells", strings.Repeat("\n", 50) + "a"}
	for _, count := range []int{51, 52, 100, 3000} {
		list = append(list, strings.Repeat("\n", count), strings.Repeat("cells\n", count), strings.Repeat("x y\n", count))
	}
	for _, part := range []string{"x", " ", "cells ", "\xff"} {
		long := strings.Repeat(part, 3001)
		list = append(list, long[:3000]+"\n", long[:2999], long, strings.Repeat(long[:99]+"\n", 30)+"\n", strings.Repeat(part, 100000)+"\n")
	}
	return append(list, strings.Repeat("\n", 100000))
}

// addBadDesks adds what chapter 10 forbids: what is no desk (@), no line (&), and no script (#).
func addBadDesks(add func(letter string, change func(in *input))) {
	for _, d := range noDesks() {
		add("@", func(in *input) { in.desk = d })
		add("@", func(in *input) { in.desk, in.line = d, "board 3 3" })
		add("@", func(in *input) { in.desk, in.line = d, "" })
	}
	for _, line := range noLines() {
		add("&", func(in *input) { in.line = line })
	}
	for _, text := range noScripts() {
		add("#", func(in *input) { in.script = text })
	}
}

func TestWhatIsADesk(t *testing.T) {
	for _, d := range noDesks() {
		wants(t, "IsDesk", results(impl.IsDesk(d)), false)
	}
	desks := []impl.Desk{
		impl.FirstDesk(), ringDesk(), deskOf(holed(3, 3, 4), knight, ring...), deskOf(plain(1, 1), knight), deskOf(plain(1, 1), impl.Leaper{A: 5, B: 5}, 0),
		deskOf(plain(8, 8), impl.Leaper{A: 0, B: 5}), deskOf(onlyCell(8, 8, 63), knight, 63), deskOf(plain(8, 8), single, snake(8, 8)...), deskOf(plain(8, 8), single, 63, 62),
		{Board: plain(4, 3), Leaper: knight, Walk: []int{}}, {Board: impl.Board{Wide: 4, High: 3, Holes: []int{}}, Leaper: knight},
	}
	for _, d := range desks {
		wants(t, "IsDesk", results(impl.IsDesk(d)), true)
		replies(t, d, "leaper 5 5", deskOf(d.Board, impl.Leaper{A: 5, B: 5}), "-")
	}
	wants(t, "FirstDesk", results(impl.FirstDesk()), deskOf(plain(4, 3), knight))
}

func TestFirstDeskIsNew(t *testing.T) {
	d := impl.FirstDesk()
	d.Board.Wide, d.Board.Holes, d.Leaper.A, d.Walk = 2, append(d.Board.Holes, 1), 0, append(d.Walk, 5)
	wants(t, "FirstDesk", results(impl.FirstDesk()), deskOf(plain(4, 3), knight))
	wants(t, "DeskAfter", results(impl.DeskAfter("")), deskOf(plain(4, 3), knight), true)
}

// A line may have up to 3000 bytes, whatever they are.
func TestLinesThatMayBeAny(t *testing.T) {
	wants(t, "the limits", results(impl.MaxScript, impl.MaxLines), 3000, 50)
	list := []string{"", " ", "  ", "\x00", "\r", "\t", "\xff", "-", "a1", "cells\r", "cells\x00", "cells\t", "\tcells", "go\ta1", "Cells", "CELLS", "cell", "cellss", "cells-", "что", "no", "what", "closed", "fly", "#", "board", "board 3x3", "board,3,3", "board 3,3"}
	for _, part := range []string{"c", " ", "\x00", "\xff", "7", "go ", "cells "} {
		long := strings.Repeat(part, 3000)
		list = append(list, long[:3000], long[:2999], long[:100])
	}
	for first := range 256 {
		if first != '\n' {
			list = append(list, string([]byte{byte(first)}), string([]byte{'s', 'h', 'o', 'w', byte(first)}), string([]byte{byte(first), 's', 'h', 'o', 'w'}))
		}
	}
	for _, line := range list {
		replies(t, ringDesk(), line, ringDesk(), "what")
		replies(t, impl.FirstDesk(), line, impl.FirstDesk(), "what")
	}
	replies(t, ringDesk(), "go "+strings.Repeat("a", 2997), ringDesk(), "no")
	replies(t, ringDesk(), "board 3 "+strings.Repeat("3", 2992), ringDesk(), "what")
}

// A script may have up to 50 lines and 3000 bytes.
func TestMostOfAScript(t *testing.T) {
	wants(t, "RunScript of none", results(impl.RunScript("")), []string(nil), true)
	wants(t, "DeskAfter of none", results(impl.DeskAfter("")), deskOf(plain(4, 3), knight), true)
	wants(t, "FailedLines of none", results(impl.FailedLines("")), []int(nil), true)
	for count := 1; count <= 53; count++ {
		whats, twelves := slices.Repeat([]string{"what"}, count), slices.Repeat([]string{"12"}, count)
		failed, desk := up(1, count), deskOf(plain(4, 3), knight)
		if count > 50 {
			whats, twelves, failed, desk = nil, nil, nil, impl.Desk{}
		}
		wants(t, named("RunScript of empty lines", count), results(impl.RunScript(strings.Repeat("\n", count))), whats, count <= 50)
		wants(t, named("FailedLines of empty lines", count), results(impl.FailedLines(strings.Repeat("\n", count))), failed, count <= 50)
		wants(t, named("RunScript", count), results(impl.RunScript(strings.Repeat("cells\n", count))), twelves, count <= 50)
		wants(t, named("FailedLines", count), results(impl.FailedLines(strings.Repeat("cells\n", count))), []int(nil), count <= 50)
		wants(t, named("DeskAfter", count), results(impl.DeskAfter(strings.Repeat("cells\n", count))), desk, count <= 50)
	}
	for size := 2990; size <= 3010; size++ {
		last := strings.Repeat("x", size-len("go b3\n")-1) + "\n"
		said, failed, desk := []string{"b3", "what"}, []int{2}, deskOf(plain(4, 3), knight, 9)
		if size > 3000 {
			said, failed, desk = nil, nil, impl.Desk{}
		}
		wants(t, named("RunScript of bytes", size), results(impl.RunScript("go b3\n"+last)), said, size <= 3000)
		wants(t, named("FailedLines of bytes", size), results(impl.FailedLines("go b3\n"+last)), failed, size <= 3000)
		wants(t, named("DeskAfter of bytes", size), results(impl.DeskAfter("go b3\n"+last)), desk, size <= 3000)
		wants(t, named("RunScript without the last newline", size), results(impl.RunScript("go b3\n"+last[:len(last)-1])), []string(nil), false)
	}
	for _, text := range noScripts() {
		wants(t, "RunScript", results(impl.RunScript(text)), []string(nil), false)
		wants(t, "DeskAfter", results(impl.DeskAfter(text)), impl.Desk{}, false)
		wants(t, "FailedLines", results(impl.FailedLines(text)), []int(nil), false)
	}
}

// memoryLines have an effect, none, or are refused.
var memoryLines = []string{"board 2 5", "board 9 9", "leaper 2 2", "leaper 9 9", "hole c3", "hole a2", "hole b2", "go b1", "go b3", "go b2", "back", "walk b3", "tour", "ring", "show", "cells", "leaps", "from c2", "from b2", "tours", "done", "crossings", "guards", "peaceful", "fly", ""}

// A line neither writes to the desk nor to what lies behind its lists, and the desk behind it has memory of its own.
func TestLinesLeaveDesksAlone(t *testing.T) {
	for _, walk := range [][]int{{}, {0}, {0, 5, 6}, ring} {
		for _, line := range memoryLines {
			in := goodInput()
			in.desk, in.line, in.script = deskOf(holed(3, 3, 4), knight, walk...), line, lines(append(memoryLines, line)...)
			leavesAlone(t, in, consoleCalls)
			isOwned(t, in, consoleCalls)
		}
	}
}

// What a desk becomes by one line does not show in what it becomes by another one.
func TestDesksHaveMemoryOfTheirOwn(t *testing.T) {
	for _, first := range memoryLines {
		for _, second := range memoryLines {
			d := ringDesk()
			one, _, _ := impl.DeskLine(d, first)
			before := one
			before.Board.Holes, before.Walk = slices.Clone(one.Board.Holes), slices.Clone(one.Walk)
			other, _, _ := impl.DeskLine(d, second)
			further, _, _ := impl.DeskLine(one, second)
			for _, list := range slicesIn(reflect.ValueOf([]impl.Desk{other, further})) {
				for i := range whole(list) {
					whole(list)[i] = junk
				}
			}
			wants(t, first+" with "+second, results(d, one), ringDesk(), before)
		}
	}
}
