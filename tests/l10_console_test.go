package tests

import (
	"slices"
	"strings"
	"testing"

	"loop.example/g01239/impl"
)

// replies ends the test unless a line leads from a desk to another one, with this reply.
func replies(t *testing.T, d impl.Desk, line string, behind impl.Desk, reply string) {
	t.Helper()
	wants(t, "DeskLine "+line, results(impl.DeskLine(d, line)), behind, reply, true)
}

// refuses ends the test unless each line leaves a desk as it is, with this reply.
func refuses(t *testing.T, d impl.Desk, reply string, list ...string) {
	t.Helper()
	for _, line := range list {
		replies(t, d, line, d, reply)
	}
}

func TestConsoleExample(t *testing.T) {
	script := lines("cells", "tours", "go a1", "go c2", "go b1", "back", "from a1", "board 3 3", "hole b2", "ring", "done", "crossings", "back x", "fly")
	wants(t, "RunScript", results(impl.RunScript(script)), []string{"12", "16", "a1", "a1-c2", "no", "a1", "c2-b3", "-", "-", "a1-c2-a3-b1-c3-a2-c1-b3", "closed", "12", "what", "what"}, true)
	wants(t, "DeskAfter", results(impl.DeskAfter(script)), deskOf(holed(3, 3, 4), knight, ring...), true)
	wants(t, "FailedLines", results(impl.FailedLines(script)), []int{5, 13, 14}, true)
}

func TestBoardLines(t *testing.T) {
	d := ringDesk()
	replies(t, d, "board 3 3", deskOf(plain(3, 3), knight), "-")
	replies(t, d, "board 1 1", deskOf(plain(1, 1), knight), "-")
	replies(t, d, "board 8 8", deskOf(plain(8, 8), knight), "-")
	replies(t, d, "board 2 7", deskOf(plain(2, 7), knight), "-")
	replies(t, deskOf(plain(5, 4), double, 0, 2), "board 5 4", deskOf(plain(5, 4), double), "-")
	for w := range 12 {
		for h := range 12 {
			line := named("board", w, h)
			if w >= 1 && w <= 8 && h >= 1 && h <= 8 {
				replies(t, d, line, deskOf(plain(w, h), knight), "-")
			} else {
				refuses(t, d, "no", line)
			}
		}
	}
	refuses(t, d, "no", "board 999999 999999", "board 3 999999", "board 999999 3", "board 100 3", "board 0 999999")
}

func TestLeaperLines(t *testing.T) {
	d := ringDesk()
	replies(t, d, "leaper 1 2", deskOf(d.Board, knight), "-")
	replies(t, d, "leaper 0 1", deskOf(d.Board, single), "-")
	for a := range 8 {
		for b := range 8 {
			line := named("leaper", a, b)
			if a <= b && b >= 1 && b <= 5 {
				replies(t, d, line, deskOf(d.Board, impl.Leaper{A: a, B: b}), "-")
			} else {
				refuses(t, d, "no", line)
			}
		}
	}
	refuses(t, d, "no", "leaper 999999 999999", "leaper 0 999999", "leaper 999999 5", "leaper 10 12")
}

func TestHoleLines(t *testing.T) {
	replies(t, deskOf(plain(3, 3), knight, 0, 5), "hole b2", deskOf(holed(3, 3, 4), knight), "-")
	replies(t, deskOf(plain(3, 3), knight, 0, 5), "hole a1", deskOf(holed(3, 3, 0), knight), "-")
	d := ringDesk()
	replies(t, d, "hole a1", deskOf(holed(3, 3, 0, 4), knight), "-")
	replies(t, d, "hole c3", deskOf(holed(3, 3, 4, 8), knight), "-")
	replies(t, deskOf(holed(3, 3, 0, 1, 7), knight), "hole c1", deskOf(holed(3, 3, 0, 1, 2, 7), knight), "-")
	replies(t, deskOf(holed(2, 1, 1), knight, 0), "back", deskOf(holed(2, 1, 1), knight), "-")
	replies(t, deskOf(plain(2, 1), knight, 1), "hole a1", deskOf(holed(2, 1, 0), knight), "-")
	refuses(t, d, "no", "hole b2", "hole d1", "hole a4", "hole a0", "hole A1", "hole 1", "hole a1-b1", "hole -", "hole ")
	for _, cell := range []int{0, 5, 63} {
		name, _ := impl.NameOf(plain(8, 8), cell)
		refuses(t, deskOf(onlyCell(8, 8, cell), knight, cell), "no", "hole "+name)
		refuses(t, deskOf(onlyCell(8, 8, cell), knight), "no", "hole "+name)
	}
	refuses(t, deskOf(plain(1, 1), knight, 0), "no", "hole a1")
	refuses(t, deskOf(holed(2, 1, 0), knight), "no", "hole a1", "hole b1")
}

func TestGoAndBackLines(t *testing.T) {
	b := holed(3, 3, 4)
	d := deskOf(b, knight)
	for i, cell := range ring {
		name, _ := impl.NameOf(b, cell)
		text, _ := impl.PathText(b, ring[:i+1])
		next := deskOf(b, knight, ring[:i+1]...)
		before := d.Walk
		replies(t, d, "go "+name, next, text)
		if i == 0 {
			text = "-"
		} else {
			text = text[:len(text)-3]
		}
		replies(t, next, "back", deskOf(b, knight, before...), text)
		d = next
	}
	refuses(t, d, "no", "go a1", "go b3", "go b2")
	refuses(t, ringDesk(), "no", "go a1", "go c2", "go a3", "go c1", "go c3", "go b2", "go d1", "go b4", "go c0", "go B1", "go b", "go b1-c3", "go -", "go ")
	replies(t, ringDesk(), "go b1", deskOf(b, knight, 0, 5, 6, 1), "a1-c2-a3-b1")
	refuses(t, deskOf(b, knight), "no", "back", "go b2", "go d1", "go ")
	refuses(t, impl.FirstDesk(), "no", "back", "go ", "go e1", "go a4", "go c1-c1")
	long := snake(8, 8)
	text, _ := impl.PathText(plain(8, 8), long)
	replies(t, deskOf(plain(8, 8), single, long[:63]...), "go a8", deskOf(plain(8, 8), single, long...), text)
	refuses(t, deskOf(plain(8, 8), single, long...), "no", "go a8", "go b8", "go a7")
}

func TestLinesThatMakeWalks(t *testing.T) {
	d := ringDesk()
	replies(t, d, "walk c3", deskOf(d.Board, knight, 8, 1, 6, 5, 0, 7, 2, 3), "c3-b1-a3-c2-a1-b3-c1-a2")
	replies(t, d, "tour", deskOf(d.Board, knight, ring...), "a1-c2-a3-b1-c3-a2-c1-b3")
	replies(t, d, "ring", deskOf(d.Board, knight, ring...), "a1-c2-a3-b1-c3-a2-c1-b3")
	replies(t, deskOf(plain(3, 3), knight, 0, 5), "walk b2", deskOf(plain(3, 3), knight, 4), "b2")
	replies(t, deskOf(plain(3, 2), single, 4), "tour", deskOf(plain(3, 2), single, 0, 1, 2, 5, 4, 3), "a1-b1-c1-c2-b2-a2")
	replies(t, deskOf(plain(3, 2), single, 4), "ring", deskOf(plain(3, 2), single, 0, 1, 2, 5, 4, 3), "a1-b1-c1-c2-b2-a2")
	replies(t, deskOf(plain(3, 1), single), "tour", deskOf(plain(3, 1), single, 0, 1, 2), "a1-b1-c1")
	replies(t, deskOf(plain(1, 1), knight), "tour", deskOf(plain(1, 1), knight, 0), "a1")
	refuses(t, d, "no", "walk b2", "walk d1", "walk a4", "walk x", "walk -", "walk ")
	refuses(t, deskOf(plain(3, 3), knight, 0, 5), "no", "tour", "ring")
	refuses(t, deskOf(plain(1, 1), knight, 0), "no", "ring")
	refuses(t, deskOf(plain(3, 1), single, 1), "no", "ring")
	refuses(t, impl.FirstDesk(), "no", "ring")
	refuses(t, deskOf(plain(7, 3), single, 3), "no", "tour", "ring")
	refuses(t, deskOf(keeping(8, 8, 21), single), "no", "tour", "ring")
	replies(t, deskOf(plain(5, 4), single, 3), "ring", deskOf(plain(5, 4), single, 0, 1, 2, 3, 4, 9, 8, 7, 6, 11, 12, 13, 14, 19, 18, 17, 16, 15, 10, 5), "a1-b1-c1-d1-e1-e2-d2-c2-b2-b3-c3-d3-e3-e4-d4-c4-b4-a4-a3-a2")
	for _, line := range []string{"walk a1", "walk d4", "walk h8"} {
		cell, _ := impl.CellOfName(plain(8, 8), line[5:])
		walk, _ := impl.FewestOnward(plain(8, 8), knight, cell)
		text, _ := impl.PathText(plain(8, 8), walk)
		replies(t, deskOf(plain(8, 8), knight, 63), line, deskOf(plain(8, 8), knight, walk...), text)
	}
}

// tells ends the test unless a line has this reply, and no effect.
func tells(t *testing.T, d impl.Desk, line string, reply string) {
	t.Helper()
	replies(t, d, line, d, reply)
}

func TestLinesThatTell(t *testing.T) {
	first, some, whole := impl.FirstDesk(), ringDesk(), deskOf(holed(3, 3, 4), knight, ring...)
	lone := deskOf(plain(1, 1), knight, 0)
	cases := []struct {
		desk    impl.Desk
		replies string // to the lines show, cells, leaps, tours, done, crossings, guards and peaceful
	}{
		{first, "- 12 14 16 not no a1-b1-c1-d1 a1-c1-b2-d2-a3-c3"},
		{some, "a1-c2-a3 8 8 16 not 0 a1-b1-c1 a1-c1-a3-c3"},
		{whole, "a1-c2-a3-b1-c3-a2-c1-b3 8 8 16 closed 12 a1-b1-c1 a1-c1-a3-c3"},
		{deskOf(holed(3, 3, 4), knight, ring[1:]...), "c2-a3-b1-c3-a2-c1-b3 8 8 16 not 8 a1-b1-c1 a1-c1-a3-c3"},
		{deskOf(plain(3, 3), knight, ring...), "a1-c2-a3-b1-c3-a2-c1-b3 9 8 0 not 12 a1-b1-c1-b2 a1-c1-b2-a3-c3"},
		{lone, "a1 1 0 1 tour 0 a1 a1"},
		{deskOf(plain(1, 1), knight), "- 1 0 1 not no a1 a1"},
		{deskOf(plain(2, 1), single, 1, 0), "b1-a1 2 1 2 tour 0 a1 a1"},
		{deskOf(plain(2, 2), single, 2, 3, 1, 0), "a2-b2-b1-a1 4 4 8 closed 0 a1-b1 a1-b2"},
		{deskOf(plain(3, 1), single, 2, 1, 0), "c1-b1-a1 3 2 2 tour 0 b1 a1-c1"},
		{deskOf(plain(7, 3), single, 20), "g3 21 32 no not 0 no no"},
		{deskOf(plain(4, 4), single, 15), "d4 16 24 552 not 0 b1-d2-a3-c4 a1-c1-b2-d2-a3-c3-b4-d4"},
		{deskOf(plain(5, 4), single), "- 20 31 2012 not no no no"},
		{deskOf(keeping(8, 8, 16), single), "- 16 22 116 not no a1-b1-f1-d2-h2 a1-c1-e1-g1-b2-d2-f2-h2"},
		{deskOf(plain(8, 8), knight, 0, 10, 27), "a1-c2-d4 64 168 no not 0 no no"},
	}
	asked := strings.Fields("show cells leaps tours done crossings guards peaceful")
	for _, c := range cases {
		for i, reply := range strings.Fields(c.replies) {
			tells(t, c.desk, asked[i], reply)
		}
	}
}

func TestFromLines(t *testing.T) {
	tells(t, ringDesk(), "from a1", "c2-b3")
	tells(t, ringDesk(), "from c3", "b1-a2")
	tells(t, deskOf(plain(3, 3), knight, 4), "from b2", "-")
	tells(t, deskOf(plain(1, 1), knight), "from a1", "-")
	tells(t, deskOf(plain(8, 8), knight), "from d4", "c2-e2-b3-f3-b5-f5-c6-e6")
	refuses(t, ringDesk(), "no", "from b2", "from d1", "from a4", "from a", "from a1-c2", "from -", "from ")
}

// A walk with holes around it is a tour if nothing else is there.
func TestDoneLines(t *testing.T) {
	open := deskOf(plain(4, 3), knight)
	tour, _ := impl.FirstTour(open.Board, knight)
	for count := range tour {
		tells(t, deskOf(open.Board, knight, tour[:count]...), "done", "not")
	}
	tells(t, deskOf(open.Board, knight, tour...), "done", "tour")
	for _, walk := range spins(ring) {
		tells(t, deskOf(holed(3, 3, 4), knight, walk...), "done", "closed")
		tells(t, deskOf(plain(3, 3), knight, walk...), "done", "not")
		tells(t, deskOf(holed(3, 3, 4), knight, walk[:7]...), "done", "not")
		tells(t, deskOf(holed(3, 3, min(4, walk[7]), max(4, walk[7])), knight, walk[:7]...), "done", "tour")
	}
	for _, cell := range []int{0, 9, 63} {
		tells(t, deskOf(onlyCell(8, 8, cell), knight, cell), "done", "tour")
		tells(t, deskOf(onlyCell(8, 8, cell), knight), "done", "not")
	}
	tells(t, deskOf(plain(8, 8), single, snake(8, 8)...), "done", "tour")
	tells(t, deskOf(plain(2, 1), single, 0, 1), "done", "tour") // a leap there and back is no closed tour
}

// countedWords has for each word of the table how many words follow it.
var countedWords = map[string]int{
	"board": 2, "leaper": 2, "hole": 1, "go": 1, "back": 0, "walk": 1, "tour": 0, "ring": 0, "show": 0, "cells": 0, "leaps": 0,
	"from": 1, "tours": 0, "done": 0, "crossings": 0, "guards": 0, "peaceful": 0,
}

// A word may be empty, but it counts.
func TestTooManyAndTooFewWords(t *testing.T) {
	for word, behind := range countedWords {
		for _, other := range []string{"1", "b1", "", "x", word} {
			for count := range 5 {
				line := word + strings.Repeat(" "+other, count)
				_, reply, ok := impl.DeskLine(ringDesk(), line)
				wants(t, line, results(reply == "what", ok), count != behind || behind == 2 && other != "1", true)
				if reply == "what" {
					refuses(t, ringDesk(), "what", line)
				}
				refuses(t, ringDesk(), "what", " "+line, word+"x"+line[len(word):], "x"+line, strings.ToUpper(line[:1])+line[1:])
			}
		}
	}
	refuses(t, ringDesk(), "what", "go  b1", "go b1 ", " go b1", "board  3 3", "board 3  3", "board 3 3 ", "board 3", "board", "board ", "leaper 1 2 ", "leaper  1 2", "hole  b1", "tour ", "ring ring", "show a1", "cells ", "back back", "from a1 a1", "walk b1 b1")
}

func TestNumbersInLines(t *testing.T) {
	d := ringDesk()
	none := []string{"", "-", "+", ".", "00", "01", "03", "003", "0003", "-0", "-1", "+1", "+3", "-3", "3.", "3.0", "1e0", "0x3", "0b1", "0o3", "1_0", "3a", "a3", "a1", "3,", "3\t", "3\r", "3\x00", "\x003", "\xff", "٣", "３", "1000000", "1000003", "9999999", "0999999", "0000003", "4294967299", "9223372036854775807", "9223372036854775808", "18446744073709551619", "-18446744073709551613", "36893488147419103235", strings.Repeat("0", 100) + "3", strings.Repeat("9", 1000)}
	for _, word := range none {
		for _, first := range []string{"board", "leaper"} {
			refuses(t, d, "what", first+" "+word+" 3", first+" 3 "+word, first+" "+word+" "+word, first+" 0 "+word, first+" "+word+" 0", first+" 999999 "+word)
		}
	}
	for _, word := range []string{"9", "10", "99", "100", "1000", "10000", "100000", "999998", "999999"} {
		for _, first := range []string{"board", "leaper"} {
			refuses(t, d, "no", first+" "+word+" 3", first+" 3 "+word, first+" "+word+" "+word, first+" 0 "+word, first+" "+word+" 0")
		}
	}
	refuses(t, d, "no", "board 0 3", "board 3 0", "board 0 0", "leaper 0 0", "leaper 3 0")
	replies(t, d, "leaper 0 3", deskOf(d.Board, impl.Leaper{A: 0, B: 3}), "-")
}

// Only names of cells that are there are those of cells.
func TestCellsInLines(t *testing.T) {
	for _, d := range []impl.Desk{impl.FirstDesk(), ringDesk(), deskOf(plain(8, 8), knight, 27)} {
		for _, first := range []string{"hole", "go", "walk", "from"} {
			for _, name := range noNames {
				reply := "no"
				if strings.Contains(name, " ") || len(first+" "+name) > 3000 {
					reply = "what"
				}
				refuses(t, d, reply, first+" "+name)
			}
		}
		for x := range 9 {
			for y := range 9 {
				name := string([]byte{byte('a' + x), byte('1' + y)})
				isCell := x < d.Board.Wide && y < d.Board.High && !isHole(d.Board, y*d.Board.Wide+x)
				for _, first := range []string{"hole", "walk", "from"} {
					_, reply, _ := impl.DeskLine(d, first+" "+name)
					wants(t, first+" "+name, results(reply != "no"), isCell)
				}
			}
		}
	}
}

// A refused line changes nothing, so the lines behind it reply as if it were not there.
func TestScriptsWithFailedLines(t *testing.T) {
	cases := []struct {
		script  string
		replies string
		desk    impl.Desk
		failed  []int
	}{
		{"\n", "what", impl.FirstDesk(), []int{1}},
		{"\n\n", "what what", impl.FirstDesk(), []int{1, 2}},
		{"\n\nshow\n", "what what -", impl.FirstDesk(), []int{1, 2}},
		{"back\n", "no", impl.FirstDesk(), []int{1}},
		{"go a1\n", "a1", deskOf(plain(4, 3), knight, 0), nil},
		{"go a1\r\n", "no", impl.FirstDesk(), []int{1}},
		{"show\r\n", "what", impl.FirstDesk(), []int{1}},
		{lines("go a1", "back", "back", "go c2", "go c2", "go a1"), "a1 - no c2 no c2-a1", deskOf(plain(4, 3), knight, 6, 0), []int{3, 5}},
		{lines("board 2 1", "leaper 0 1", "go b1", "hole b1", "hole a1", "go a1", "go b1", "done"), "- - b1 - no a1 no tour", deskOf(holed(2, 1, 1), single, 0), []int{5, 7}},
		{lines("board 3 3", "tour", "hole b2", "tour", "board 9 3", "done", "show x", "leaper 2 1", "back"), "- no - a1-c2-a3-b1-c3-a2-c1-b3 no closed what no a1-c2-a3-b1-c3-a2-c1", deskOf(holed(3, 3, 4), knight, ring[:7]...), []int{2, 5, 7, 8}},
		{lines("no", "what", "cells", "what no", "go no"), "what what 12 what no", impl.FirstDesk(), []int{1, 2, 4, 5}},
		{lines("board 8 8", "leaper 5 5", "tours", "guards", "walk a1", "done", "crossings"), "- - no no a1-f6 not 0", deskOf(plain(8, 8), impl.Leaper{A: 5, B: 5}, 0, 45), []int{3, 4}},
		{lines("crossings", "walk a1", "crossings", "board 1 1", "walk a1", "done", "ring", "crossings", "from a1"), "no a1-c2-a3-b1-d2-b3-c1-a2-c3-d1-b2-d3 20 - a1 tour no 0 -", deskOf(plain(1, 1), knight, 0), []int{1, 7}},
	}
	for _, c := range cases {
		wants(t, "RunScript "+c.script, results(impl.RunScript(c.script)), strings.Fields(c.replies), true)
		wants(t, "DeskAfter "+c.script, results(impl.DeskAfter(c.script)), c.desk, true)
		wants(t, "FailedLines "+c.script, results(impl.FailedLines(c.script)), c.failed, true)
	}
}

// All holes that a script of 50 lines can make are there behind it.
func TestScriptsOfManyHoles(t *testing.T) {
	list := []string{"board 7 7"}
	for cell := 48; len(list) < 50; cell-- {
		name, _ := impl.NameOf(plain(7, 7), cell)
		list = append(list, "hole "+name)
	}
	said := slices.Repeat([]string{"-"}, 49)
	wants(t, "RunScript", results(impl.RunScript(lines(list...))), append(said, "no"), true)
	wants(t, "DeskAfter", results(impl.DeskAfter(lines(list...))), deskOf(onlyCell(7, 7, 0), knight), true)
	wants(t, "FailedLines", results(impl.FailedLines(lines(list...))), []int{50}, true)
}
