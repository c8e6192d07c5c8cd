package tests

import (
	"regexp"
	"slices"
	"strconv"
	"strings"
	"testing"

	"loop.example/g01239/impl"
)

// tableLine has the lines of the document's table: C is a text without blanks, and W, H, A and B are numbers without superfluous zeros.
var tableLine = regexp.MustCompile(`(?s)\A(?:(board|leaper) (0|[1-9][0-9]{0,5}) (0|[1-9][0-9]{0,5})|(hole|go|walk|from) ([^ ]*)|(back|tour|ring|show|cells|leaps|tours|done|crossings|guards|peaceful))\z`)

// A said line is one on a desk, with what the document has it do.
type saidLine struct {
	line  string
	desk  impl.Desk // behind it
	reply string
}

// listed tells a list as replies do.
func listed(b impl.Board, list []int) string {
	if len(list) == 0 {
		return "-"
	}
	var names []string
	for _, cell := range list {
		names = append(names, string(rune('a'+cell%b.Wide))+strconv.Itoa(cell/b.Wide+1))
	}
	return strings.Join(names, "-")
}

// obeyed does what the document tells of a line, by the calls that it names.
func obeyed(d impl.Desk, line string) saidLine {
	parts := tableLine.FindStringSubmatch(line)
	if parts == nil {
		return saidLine{line, d, "what"}
	}
	next, changes, ok := changedBy(d, parts)
	if changes && ok {
		return saidLine{line, next, listed(next.Board, next.Walk)}
	}
	reply, told := askedOf(d, parts)
	if changes || !told {
		reply = "no"
	}
	return saidLine{line, d, reply}
}

// changedBy has the desk behind a line, whether it is one with an effect, and whether it has this effect.
func changedBy(d impl.Desk, parts []string) (next impl.Desk, changes bool, ok bool) {
	first, _ := strconv.Atoi(parts[2])
	second, _ := strconv.Atoi(parts[3])
	cell, named := impl.CellOfName(d.Board, parts[5])
	switch parts[1] + parts[4] + parts[6] {
	case "board":
		b, ok := impl.PlainBoard(first, second)
		return impl.Desk{Board: b, Leaper: d.Leaper}, true, ok
	case "leaper":
		l := impl.Leaper{A: first, B: second}
		return impl.Desk{Board: d.Board, Leaper: l}, true, impl.IsLeaper(l)
	case "hole":
		b := plain(d.Board.Wide, d.Board.High)
		for other := range b.Wide * b.High {
			if isHole(d.Board, other) || other == cell {
				b.Holes = append(b.Holes, other)
			}
		}
		return impl.Desk{Board: b, Leaper: d.Leaper}, true, named && len(there(d.Board)) > 1
	case "go":
		walk := append(slices.Clone(d.Walk), cell)
		is, _ := impl.IsWalk(d.Board, d.Leaper, walk)
		return impl.Desk{Board: d.Board, Leaper: d.Leaper, Walk: walk}, true, named && is
	case "back":
		walk := slices.Clone(d.Walk)
		return impl.Desk{Board: d.Board, Leaper: d.Leaper, Walk: walk[:max(0, len(walk)-1)]}, true, len(walk) > 0
	case "walk":
		walk, ok := impl.FewestOnward(d.Board, d.Leaper, cell)
		return impl.Desk{Board: d.Board, Leaper: d.Leaper, Walk: walk}, true, named && ok
	case "tour":
		walk, ok := impl.FirstTour(d.Board, d.Leaper)
		return impl.Desk{Board: d.Board, Leaper: d.Leaper, Walk: walk}, true, ok
	case "ring":
		walk, ok := impl.FirstClosedTour(d.Board, d.Leaper)
		return impl.Desk{Board: d.Board, Leaper: d.Leaper, Walk: walk}, true, ok
	}
	return impl.Desk{}, false, false
}

// askedOf has the reply to a line without an effect, and whether the call that it names succeeds.
func askedOf(d impl.Desk, parts []string) (string, bool) {
	count := func(n int, ok bool) (string, bool) { return strconv.Itoa(n), ok }
	list := func(cells []int, ok bool) (string, bool) { return listed(d.Board, cells), ok }
	switch parts[4] + parts[6] {
	case "cells":
		return count(impl.CountCells(d.Board))
	case "leaps":
		return count(impl.CountLeaps(d.Board, d.Leaper))
	case "from":
		cell, named := impl.CellOfName(d.Board, parts[5])
		text, ok := list(impl.LeapsFrom(d.Board, d.Leaper, cell))
		return text, named && ok
	case "tours":
		return count(impl.CountTours(d.Board, d.Leaper))
	case "crossings":
		return count(impl.CountCrossings(d.Board, d.Leaper, d.Walk))
	case "guards":
		return list(impl.FirstGuards(d.Board, d.Leaper))
	case "peaceful":
		return list(impl.FirstPeaceful(d.Board, d.Leaper))
	case "done":
		tour, _ := impl.IsTour(d.Board, d.Leaper, d.Walk)
		closed, _ := impl.IsClosedTour(d.Board, d.Leaper, d.Walk)
		switch {
		case closed:
			return "closed", true
		case tour:
			return "tour", true
		}
		return "not", true
	}
	return list(d.Walk, true)
}

// randomLine is mostly one that does something on a desk.
func randomLine(random *numbers, d impl.Desk) string {
	words := strings.Split("board leaper hole go go go go back walk tour ring ring show cells leaps from tours done crossings guards peaceful", " ")
	word := words[random.below(len(words))]
	line := word
	switch countedWords[word] {
	case 2:
		most := 5
		if random.below(4) == 0 {
			most = 10
		}
		line = named(word, random.below(most), random.below(most))
	case 1:
		cells := there(d.Board)
		cell := cells[random.below(len(cells))]
		if word == "go" && len(d.Walk) > 0 && random.below(4) > 0 {
			next, _ := impl.LeapsFrom(d.Board, d.Leaper, d.Walk[len(d.Walk)-1])
			if len(next) > 0 {
				cell = next[random.below(len(next))]
			}
		}
		if random.below(8) == 0 {
			cell = random.below(d.Board.Wide * (d.Board.High + 1))
		}
		line += " " + listed(d.Board, []int{cell})
	}
	if random.below(10) == 0 {
		line = spoiled(random, line)
	}
	return line
}

// spoiled has one letter more, less, or another one.
func spoiled(random *numbers, line string) string {
	letters := " abgo0123456789- -\x00\xff\r\tx"
	at := random.below(len(line))
	letter := string(letters[random.below(len(letters))])
	return []string{line[:at] + letter + line[at+1:], line[:at] + letter + line[at:], line[:at] + line[at+1:], line + " " + letter, line + " "}[random.below(5)]
}

// onScripts runs a test on random scripts, with what the document has them do.
func onScripts(seed numbers, count int, test func(said []saidLine)) {
	for range count {
		d := impl.FirstDesk()
		var said []saidLine
		for range countOfLines(&seed) {
			s := obeyed(d, randomLine(&seed, d))
			said = append(said, s)
			d = s.desk
		}
		test(said)
	}
}

// countOfLines is a number of lines that a script may have, and the greatest one in one of ten cases.
func countOfLines(random *numbers) int {
	if random.below(10) == 0 {
		return 50
	}
	return random.below(50)
}

// Scripts do what the calls do that they name.
func TestScriptsDoWhatTheirCallsDo(t *testing.T) {
	onScripts(31, 2000, func(said []saidLine) {
		var list, wanted []string
		var failed []int
		desk := deskOf(plain(4, 3), knight)
		for i, s := range said {
			list, wanted, desk = append(list, s.line), append(wanted, s.reply), s.desk
			if s.reply == "no" || s.reply == "what" {
				failed = append(failed, i+1)
			}
		}
		script := lines(list...)
		wants(t, "RunScript "+script, results(impl.RunScript(script)), wanted, true)
		wants(t, "DeskAfter "+script, results(impl.DeskAfter(script)), desk, true)
		wants(t, "FailedLines "+script, results(impl.FailedLines(script)), failed, true)
		wants(t, "IsDesk behind "+script, results(impl.IsDesk(desk)), true)
	})
}

// Each line of the table is tried with what it does, and with no.
func TestLinesDoWhatTheirCallsDo(t *testing.T) {
	done, refused, whats := map[string]int{}, map[string]int{}, 0
	onScripts(32, 3000, func(said []saidLine) {
		d := impl.FirstDesk()
		for _, s := range said {
			wants(t, "DeskLine "+s.line, results(impl.DeskLine(d, s.line)), s.desk, s.reply, true)
			word, _, _ := strings.Cut(s.line, " ")
			switch s.reply {
			case "what":
				whats++
			case "no":
				refused[word]++
			default:
				done[word]++
			}
			d = s.desk
		}
	})
	for word := range countedWords {
		if done[word] < 50 {
			t.Error("too few lines with a reply were tried:", word, done[word])
		}
		alwaysReplies := word == "show" || word == "cells" || word == "leaps" || word == "done"
		if alwaysReplies != (refused[word] == 0) || !alwaysReplies && refused[word] < 50 {
			t.Error("too few lines without a reply were tried:", word, refused[word])
		}
	}
	if whats < 1000 {
		t.Error("too few lines that are none were tried:", whats)
	}
}

// The replies to the lines of a script are those to the first lines, and then those to the rest on the desk behind them.
func TestScriptsInParts(t *testing.T) {
	onScripts(33, 100, func(said []saidLine) {
		var list []string
		for _, s := range said {
			list = append(list, s.line)
		}
		whole, _ := impl.RunScript(lines(list...))
		for i := range list {
			part, ok := impl.RunScript(lines(list[:i]...))
			wants(t, "RunScript of the first lines", results(part, ok), whole[:i], true)
			d, _ := impl.DeskAfter(lines(list[:i]...))
			_, reply, ok := impl.DeskLine(d, list[i])
			wants(t, "DeskLine behind them", results(reply, ok), whole[i], true)
		}
	})
}
