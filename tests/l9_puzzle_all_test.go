package tests

import (
	"slices"
	"strconv"
	"testing"

	"loop.example/g01239/impl"
)

// solves tells by the definition alone whether a tour has each cell with a number at that place.
func solves(tour []int, p impl.Puzzle) bool {
	for cell, number := range p.Numbers {
		if number > 0 && tour[number-1] != cell {
			return false
		}
	}
	return true
}

// solutionsAmong has the tours that solve a puzzle, in their order.
func solutionsAmong(tours [][]int, p impl.Puzzle) [][]int {
	return slices.DeleteFunc(slices.Clone(tours), func(tour []int) bool { return !solves(tour, p) })
}

// countAmong counts them.
func countAmong(tours [][]int, p impl.Puzzle) int {
	solutions := 0
	for _, tour := range tours {
		if solves(tour, p) {
			solutions++
		}
	}
	return solutions
}

// tours has all tours in their order.
func (g graph) tours() [][]int {
	list := g.listTours()
	var all [][]int
	for _, start := range g.cells {
		all = append(all, list.from[start]...)
	}
	return all
}

// fullPuzzle has all numbers of a tour.
func fullPuzzle(b impl.Board, l impl.Leaper, tour []int) impl.Puzzle {
	p := blank(b, l)
	for i, cell := range tour {
		p.Numbers[cell] = i + 1
	}
	return p
}

// harderAmong makes a puzzle harder by the definition alone.
func harderAmong(tours [][]int, p impl.Puzzle) impl.Puzzle {
	for cell := range p.Numbers {
		hidden := numbered(p, cell, 0)
		if countAmong(tours, hidden) == 1 {
			p = hidden
		}
	}
	return p
}

// sureAmong has the numbers that cells have in all of some tours.
func sureAmong(solutions [][]int, size int) []int {
	sure := make([]int, size)
	for place, cell := range solutions[0] {
		if !slices.ContainsFunc(solutions, func(tour []int) bool { return tour[place] != cell }) {
			sure[cell] = place + 1
		}
	}
	return sure
}

// randomPuzzle shows some numbers of a tour, and perhaps two of them each in place of the other.
func randomPuzzle(random *numbers, full impl.Puzzle) impl.Puzzle {
	p := copied(full)
	most := 1 + random.below(6)
	for cell := range p.Numbers {
		if random.below(6) >= most {
			p.Numbers[cell] = 0
		}
	}
	if random.below(6) == 0 {
		shown := there(p.Board)
		one, other := shown[random.below(len(shown))], shown[random.below(len(shown))]
		p.Numbers[one], p.Numbers[other] = p.Numbers[other], p.Numbers[one]
	}
	return p
}

// dense is a board of 5 by 4 cells with 12 to 16 of them.
func dense(random *numbers) impl.Board {
	b := plain(5, 4)
	for holes := 4 + random.below(5); len(b.Holes) < holes; {
		cell := random.below(20)
		if !isHole(b, cell) {
			b.Holes = append(b.Holes, cell)
		}
	}
	slices.Sort(b.Holes)
	return b
}

// onPuzzles runs a test on puzzles of all leapers, with all tours of their boards: few of those that have none.
func onPuzzles(t *testing.T, random *numbers, test func(t *testing.T, p impl.Puzzle, tours [][]int)) {
	t.Helper()
	try := func(t *testing.T, b impl.Board, l impl.Leaper, g graph) {
		if len(g.cells) > 16 {
			return
		}
		tours := g.tours()
		if len(tours) == 0 && random.below(8) > 0 {
			return
		}
		test(t, blank(b, l), tours)
		full := fullPuzzle(b, l, g.cells) // perhaps of no tour
		for range 4 {
			if len(tours) > 0 {
				full = fullPuzzle(b, l, tours[random.below(len(tours))])
			}
			p := randomPuzzle(random, full)
			test(t, p, tours)
			if t.Failed() {
				t.Fatal("for", p)
			}
		}
	}
	onSmall(t, try)
	for range 40 {
		for _, l := range []impl.Leaper{single, knight} {
			b := dense(random)
			try(t, b, l, graphOf(b, l))
		}
	}
	for range 10 {
		for _, p := range []impl.Puzzle{solutions200(), solutions201(), blank(plain(4, 4), single)} {
			try(t, p.Board, p.Leaper, graphOf(p.Board, p.Leaper))
		}
	}
}

// isTooMuch tells that all that looks for solutions fails.
func isTooMuch(t *testing.T, p impl.Puzzle) {
	t.Helper()
	expect(t, "Solutions", results(impl.Solutions(p)), [][]int(nil), false)
	expect(t, "CountSolutions", results(impl.CountSolutions(p)), 0, false)
	expect(t, "FirstSolution", results(impl.FirstSolution(p)), []int(nil), false)
	expect(t, "SureNumbers", results(impl.SureNumbers(p)), []int(nil), false)
	expect(t, "HintOf", results(impl.HintOf(p)), 0, 0, false)
	expect(t, "HarderPuzzle", results(impl.HarderPuzzle(p)), impl.Puzzle{}, false)
}

// isSolved tells that a puzzle has just these solutions, at most 200, and what follows from them.
func isSolved(t *testing.T, p impl.Puzzle, solutions [][]int) {
	t.Helper()
	expect(t, "Solutions", results(impl.Solutions(p)), solutions, true)
	expect(t, "CountSolutions", results(impl.CountSolutions(p)), len(solutions), true)
	expect(t, "FirstSolution", results(impl.FirstSolution(p)), first(solutions), len(solutions) > 0)
	if len(solutions) == 0 {
		expect(t, "SureNumbers", results(impl.SureNumbers(p)), []int(nil), false)
		expect(t, "HintOf", results(impl.HintOf(p)), 0, 0, false)
		return
	}
	sure := sureAmong(solutions, len(p.Numbers))
	expect(t, "SureNumbers", results(impl.SureNumbers(p)), sure, true)
	for cell, number := range sure {
		if number > 0 && p.Numbers[cell] == 0 {
			expect(t, "HintOf", results(impl.HintOf(p)), cell, number, true)
			return
		}
	}
	expect(t, "HintOf", results(impl.HintOf(p)), 0, 0, false)
}

// Solutions are tours with the shown numbers.
func TestSolutionsOfAllLeapers(t *testing.T) {
	random := numbers(24)
	none, one, several, tooMany, hints := 0, 0, 0, 0, 0
	onPuzzles(t, &random, func(t *testing.T, p impl.Puzzle, tours [][]int) {
		expect(t, "IsPuzzle", results(impl.IsPuzzle(p)), true)
		solutions := solutionsAmong(tours, p)
		if len(solutions) > 200 {
			isTooMuch(t, p)
		} else {
			isSolved(t, p, solutions)
		}
		for range min(4, len(tours)) {
			tour := tours[random.below(len(tours))]
			expect(t, "IsSolution", results(impl.IsSolution(p, tour)), solves(tour, p), true)
			expect(t, "IsSolution of a part", results(impl.IsSolution(p, tour[1:])), false, true)
		}
		for range min(4, len(solutions)) {
			solution := solutions[random.below(len(solutions))]
			expect(t, "IsSolution", results(impl.IsSolution(p, solution)), true, true)
			expect(t, "IsTour", results(impl.IsTour(p.Board, p.Leaper, solution)), true, true)
		}
		if _, _, ok := impl.HintOf(p); ok && len(solutions) > 1 {
			hints++
		}
		switch {
		case len(p.Numbers)-len(p.Board.Holes) < 4: // these are tried anyway
		case len(solutions) == 0:
			none++
		case len(solutions) == 1:
			one++
		case len(solutions) <= 200:
			several++
		default:
			tooMany++
		}
	})
	if none < 500 || one < 500 || several < 500 || tooMany < 20 || hints < 100 {
		t.Error("too few puzzles were tried:", none, one, several, tooMany, hints)
	}
}

// Harder puzzles keep their one solution, and no number could be made a gap any more.
func TestHarderPuzzlesOfAllLeapers(t *testing.T) {
	random := numbers(25)
	harderOnes, same, fails := 0, 0, 0
	onPuzzles(t, &random, func(t *testing.T, p impl.Puzzle, tours [][]int) {
		solutions := solutionsAmong(tours, p)
		if len(solutions) != 1 {
			expect(t, "HarderPuzzle", results(impl.HarderPuzzle(p)), impl.Puzzle{}, false)
			fails++
			return
		}
		harder := harderAmong(tours, p)
		expect(t, "HarderPuzzle", results(impl.HarderPuzzle(p)), harder, true)
		expect(t, "HarderPuzzle again", results(impl.HarderPuzzle(harder)), harder, true)
		expect(t, "Solutions of the harder one", results(impl.Solutions(harder)), solutions, true)
		full := fullPuzzle(p.Board, p.Leaper, solutions[0])
		expect(t, "HarderPuzzle of all numbers", results(impl.HarderPuzzle(full)), harderAmong(tours, full), true)
		if slices.Equal(harder.Numbers, p.Numbers) {
			same++
		} else {
			harderOnes++
		}
	})
	if harderOnes < 200 || same < 200 || fails < 1000 {
		t.Error("too few puzzles were tried:", harderOnes, same, fails)
	}
}

func TestShownNumbersOfAllLeapers(t *testing.T) {
	random := numbers(26)
	shownOnes, hiddenOnes, fails := 0, 0, 0
	onPuzzles(t, &random, func(t *testing.T, p impl.Puzzle, tours [][]int) {
		gaps, cells := 0, len(there(p.Board))
		for cell, number := range p.Numbers {
			if number == 0 && !isHole(p.Board, cell) {
				gaps++
			}
		}
		expect(t, "GapsOf", results(impl.GapsOf(p)), gaps, true)
		for range 6 {
			cell, number := random.below(len(p.Numbers)+2)-1, random.below(cells+3)-1
			isCell := slices.Contains(there(p.Board), cell)
			if isCell && p.Numbers[cell] == 0 && number >= 1 && number <= cells && !slices.Contains(p.Numbers, number) {
				expect(t, named("ShowNumber", cell, number), results(impl.ShowNumber(p, cell, number)), numbered(p, cell, number), true)
				expect(t, named("GapsOf the other", cell, number), results(impl.GapsOf(numbered(p, cell, number))), gaps-1, true)
				shownOnes++
			} else {
				expect(t, named("ShowNumber", cell, number), results(impl.ShowNumber(p, cell, number)), impl.Puzzle{}, false)
				fails++
			}
			if isCell && p.Numbers[cell] > 0 {
				expect(t, named("HideNumber", cell), results(impl.HideNumber(p, cell)), numbered(p, cell, 0), true)
				hiddenOnes++
			} else {
				expect(t, named("HideNumber", cell), results(impl.HideNumber(p, cell)), impl.Puzzle{}, false)
			}
		}
	})
	if shownOnes < 500 || hiddenOnes < 500 || fails < 500 {
		t.Error("too few numbers were tried:", shownOnes, hiddenOnes, fails)
	}
}

func TestMadePuzzlesOfAllLeapers(t *testing.T) {
	random := numbers(27)
	made := 0
	onPuzzles(t, &random, func(t *testing.T, p impl.Puzzle, tours [][]int) {
		for range min(3, len(tours)) {
			tour, every := tours[random.below(len(tours))], 1+random.below(20)
			wanted := fullPuzzle(p.Board, p.Leaper, tour)
			for cell, number := range wanted.Numbers {
				if number%every != 1%every {
					wanted.Numbers[cell] = 0
				}
			}
			expect(t, named("MakePuzzle", every), results(impl.MakePuzzle(p.Board, p.Leaper, tour, every)), wanted, true)
			expect(t, "IsSolution", results(impl.IsSolution(wanted, tour)), true, true)
			made++
		}
	})
	if made < 1000 {
		t.Error("too few puzzles were made:", made)
	}
}

// mirroredCell is where a cell comes to if the columns are in the other order.
func mirroredCell(b impl.Board, cell int) int {
	return cell/b.Wide*b.Wide + b.Wide - 1 - cell%b.Wide
}

func mirroredPuzzle(p impl.Puzzle) impl.Puzzle {
	m := blank(plain(p.Board.Wide, p.Board.High), p.Leaper)
	for cell := range p.Numbers {
		from := mirroredCell(p.Board, cell)
		m.Numbers[cell] = p.Numbers[from]
		if isHole(p.Board, from) {
			m.Board.Holes = append(m.Board.Holes, cell)
		}
	}
	return m
}

// Solutions are carried with the puzzle backwards, and to the mirrored board.
func TestPuzzlesBackwardsAndMirroredOfAllLeapers(t *testing.T) {
	random := numbers(28)
	carried := 0
	onPuzzles(t, &random, func(t *testing.T, p impl.Puzzle, tours [][]int) {
		back := copied(p)
		for cell, number := range p.Numbers {
			if number > 0 {
				back.Numbers[cell] = len(there(p.Board)) + 1 - number
			}
		}
		expect(t, "BackPuzzle", results(impl.BackPuzzle(p)), back, true)
		expect(t, "BackPuzzle back", results(impl.BackPuzzle(back)), p, true)
		mirrored := mirroredPuzzle(p)
		expect(t, "MirrorPuzzle", results(impl.MirrorPuzzle(p)), mirrored, true)
		expect(t, "MirrorPuzzle back", results(impl.MirrorPuzzle(mirrored)), p, true)
		solutions := solutionsAmong(tours, p)
		if len(solutions) > 200 {
			return
		}
		var behind, across [][]int
		for _, solution := range solutions {
			behind = append(behind, backwards(solution))
			image := slices.Clone(solution)
			for i, cell := range image {
				image[i] = mirroredCell(p.Board, cell)
			}
			across = append(across, image)
			carried++
		}
		slices.SortFunc(behind, slices.Compare)
		slices.SortFunc(across, slices.Compare)
		expect(t, "Solutions backwards", results(impl.Solutions(back)), behind, true)
		expect(t, "Solutions mirrored", results(impl.Solutions(mirrored)), across, true)
	})
	if carried < 1000 {
		t.Error("too few solutions were carried:", carried)
	}
}

// textOf tells a puzzle as the document does.
func textOf(p impl.Puzzle) string {
	text := strconv.Itoa(p.Leaper.A) + "," + strconv.Itoa(p.Leaper.B)
	for cell, number := range p.Numbers {
		switch {
		case cell == 0:
			text += ":"
		case cell%p.Board.Wide == 0:
			text += "/"
		default:
			text += ","
		}
		switch {
		case isHole(p.Board, cell):
			text += "#"
		case number == 0:
			text += "."
		default:
			text += strconv.Itoa(number)
		}
	}
	return text
}

// Each puzzle is read from its text, and whatever is read from a text has just this one.
func TestPuzzleTextsOfAllLeapers(t *testing.T) {
	random := numbers(29)
	read, unread := 0, 0
	letters := "0123456789.#,/: +-"
	onPuzzles(t, &random, func(t *testing.T, p impl.Puzzle, tours [][]int) {
		text := textOf(p)
		expect(t, "PuzzleText", results(impl.PuzzleText(p)), text, true)
		expect(t, "ParsePuzzle of "+text, results(impl.ParsePuzzle(text)), p, true)
		for range 10 {
			at := random.below(len(text))
			letter := string(letters[random.below(len(letters))])
			other := []string{text[:at] + letter + text[at+1:], text[:at] + letter + text[at:], text[:at] + text[at+1:]}[random.below(3)]
			q, ok := impl.ParsePuzzle(other)
			if !ok {
				expect(t, "ParsePuzzle of "+other, results(q), impl.Puzzle{})
				unread++
				continue
			}
			read++
			expect(t, "IsPuzzle", results(impl.IsPuzzle(q)), true)
			if textOf(q) != other {
				t.Error(other, "was read as", q)
			}
		}
	})
	if read < 1000 || unread < 1000 {
		t.Error("too few texts were tried:", read, unread)
	}
}

// sizedPuzzle has parts that mostly go together, with numbers that mostly fit.
func sizedPuzzle(random *numbers) impl.Puzzle {
	p := blank(plain(1+random.below(5), 1+random.below(4)), knight)
	for cell := range p.Numbers {
		if random.below(5) == 0 {
			p.Board.Holes = append(p.Board.Holes, cell)
		}
		if random.below(8) == 0 {
			p.Numbers[cell] = random.below(len(p.Numbers) + 2)
		}
	}
	return p
}

func TestWhatIsAPuzzle(t *testing.T) {
	random := numbers(30)
	are, holes, twice, great, many := 0, 0, 0, 0, 0
	for range 50000 {
		p := sizedPuzzle(&random)
		cells := there(p.Board)
		var shown []int
		inHole := false
		for cell, number := range p.Numbers {
			if number != 0 {
				shown = append(shown, number)
				inHole = inHole || isHole(p.Board, cell)
			}
		}
		slices.Sort(shown)
		isTwice := len(slices.Compact(slices.Clone(shown))) < len(shown)
		isGreat := len(shown) > 0 && slices.Max(shown) > len(cells)
		isMany := len(cells) > 16
		is := len(cells) > 0 && !inHole && !isTwice && !isGreat && !isMany
		wants(t, "IsPuzzle of "+textOf(p), results(impl.IsPuzzle(p)), is)
		_, ok := impl.PuzzleText(p)
		wants(t, "PuzzleText of "+textOf(p), results(ok), is)
		switch {
		case is:
			are++
		case inHole && !isTwice && !isGreat && !isMany:
			holes++
		case isTwice && !inHole && !isGreat && !isMany:
			twice++
		case isGreat && !inHole && !isTwice && !isMany:
			great++
		case isMany && !inHole && !isTwice && !isGreat:
			many++
		}
	}
	if are < 1000 || min(holes, twice, great, many) < 200 {
		t.Error("too few puzzles were tried:", are, holes, twice, great, many)
	}
}
