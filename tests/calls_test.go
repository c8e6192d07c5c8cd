package tests

import (
	"math"
	"slices"
	"strings"
	"testing"

	"loop.example/g01239/impl"
)

// An input has arguments for every function.
type input struct {
	board   impl.Board
	leaper  impl.Leaper
	from    int
	to      int
	wide    int
	high    int
	leaps   int
	index   int
	path    []int
	numbers []int
	name    string
	text    string
	colours []int
	few     int // how many colours
	p       int
	q       int
	m       int
	x       int
	y       int
	set     []int
	size    int // how many cells of a set
	field   impl.Board
	first   []int // two walks on the field
	second  []int
	most    int // how many turns
	steps   []int
	leap    []int
	other   []int // another leap
	round   []int // a ring on the field
	around  int   // how many cells of a ring
	joined  impl.Around
	start   int // two cells of it
	goal    int
	across  int // a step on it
	above   int
	often   int // indices of two steps
	seldom  int
	every   int // which one of so many steps is the other one
	puzzle  impl.Puzzle
	gap     int // a cell of it
	number  int // what may be shown there
	known   int // another cell, with a number
	rate    int // which one of so many numbers is shown
	told    string
	desk    impl.Desk
	line    string
	script  string
}

// A call runs one function; needs has the letters of the arguments that have to be valid.
type call struct {
	name  string
	needs string
	run   func(in input) []any
}

// allCalls has every function of the chapters that are there.
func allCalls() []call {
	return slices.Concat(boardCalls, farCalls, tourCalls, paintCalls, guardCalls, blockCalls, crossCalls, aroundCalls, puzzleCalls, consoleCalls)
}

// goodInput is valid for every function, and has what any of them asks for: its board is one round, which is the path.
func goodInput() input {
	b := holed(4, 3, 3, 5, 7, 11)
	return input{
		board: b, leaper: knight, from: 0, to: 9, wide: 4, high: 3, leaps: 3, index: 7,
		path: []int{0, 6, 8, 1, 10, 4, 2, 9}, numbers: []int{3, 0, 1, 0, 0, 0, 0, 0, 0, 2, 0, 0}, name: "b3", text: "a1-b3-c1",
		colours: bySums(b), few: 3, p: 1, q: 2, m: 5, x: 1, y: 0, set: []int{0, 2, 10}, size: 2,
		field: holed(5, 4, 4, 14, 15, 19), first: []int{0, 7, 18, 11}, second: []int{2, 5, 12, 9}, most: 3, steps: []int{7, 1},
		leap: []int{0, 6}, other: []int{8, 1}, round: []int{9, 18, 7, 16, 5, 2}, around: 6,
		joined: torus(4, 3), start: 1, goal: 11, across: 3, above: -2, often: 0, seldom: 2, every: 6,
		puzzle: ringPuzzle(), gap: 1, number: 4, known: 5, rate: 3, told: "1,2:1,.,./.,#,2/.,.,.",
		desk: ringDesk(), line: "go b1", script: lines("board 3 3", "hole b2", "tour", "back", "go b2"),
	}
}

var extremes = []int{math.MinInt64, math.MinInt64 + 1, -1 << 32, -64, -1, 64, 65, 1 << 32, 1<<62 + 1, math.MaxInt64 - 1, math.MaxInt64}

func badBoards() []impl.Board {
	all := []int{0, 1, 2, 3}
	boards := []impl.Board{
		{}, plain(0, 3), plain(3, 0), plain(9, 1), plain(1, 9), plain(-3, -3), plain(-1, 4),
		holed(2, 2, all...), holed(1, 1, 0), holed(2, 2, 0, 1, 2, 3, 4), holed(2, 2, 4), holed(2, 2, -1), holed(2, 2, -1, 0),
		holed(3, 3, 1, 1), holed(3, 3, 2, 1), holed(3, 3, 0, 5, 5), holed(3, 3, 0, 5, 4), holed(3, 3, 0, 9), holed(0, 0, 0),
		{Wide: 8, High: 8, Holes: make([]int, 100)}, {Wide: 3, High: 3, Holes: slices.Repeat([]int{7}, 5)},
	}
	for _, n := range extremes {
		boards = append(boards, plain(n, 3), plain(3, n), plain(n, n), holed(3, 3, 1, n), holed(3, 3, n, 1))
	}
	return boards
}

func badLeapers() []impl.Leaper {
	leapers := []impl.Leaper{{}, {A: 2, B: 1}, {A: 1, B: 0}, {A: -1, B: 2}, {A: 1, B: 6}, {A: 6, B: 6}, {A: -2, B: -1}, {A: 0, B: -1}}
	for _, n := range extremes {
		leapers = append(leapers, impl.Leaper{A: n, B: 2}, impl.Leaper{A: 1, B: n}, impl.Leaper{A: n, B: n})
	}
	return leapers
}

// badInputs has for each letter inputs of which just the argument with this letter is invalid.
func badInputs() map[string][]input {
	bad := map[string][]input{}
	add := func(letter string, change func(in *input)) {
		in := goodInput()
		change(&in)
		bad[letter] = append(bad[letter], in)
	}
	for _, b := range badBoards() {
		add("b", func(in *input) { in.board = b })
		add("b", func(in *input) { in.board, in.path, in.text, in.set, in.steps = b, nil, "", nil, nil })
	}
	for _, l := range badLeapers() {
		add("l", func(in *input) { in.leaper = l })
		add("l", func(in *input) { in.leaper, in.path, in.set, in.steps = l, nil, nil, nil })
	}
	for _, n := range append([]int{3, 5, 7, 11, 12, 13}, extremes...) {
		add("f", func(in *input) { in.from = n })
		add("t", func(in *input) { in.to = n })
		add("p", func(in *input) { in.path = []int{n} })
		add("p", func(in *input) { in.path = []int{0, n, 2} })
	}
	for _, n := range append([]int{0, 9}, extremes...) {
		add("w", func(in *input) { in.wide = n })
		add("h", func(in *input) { in.high = n })
	}
	for _, n := range append([]int{13}, extremes...) {
		add("k", func(in *input) { in.leaps = n })
	}
	add("p", func(in *input) { in.path = make([]int, 65) })
	for _, name := range append([]string{"d1", "b2", "d3", "e1", "a4"}, noNames...) {
		add("n", func(in *input) { in.name = name })
		add("s", func(in *input) { in.text = "a1-" + name })
	}
	add("s", func(in *input) { in.text = strings.Repeat("a1-", 64) + "a1" })
	addBadTours(add)
	addBadPaintings(add)
	addBadSets(add)
	addBadBlocks(add)
	addBadCrossings(add)
	addBadAround(add)
	addBadPuzzles(add)
	addBadDesks(add)
	return bad
}

func TestInvalidArgumentsGiveZeros(t *testing.T) {
	bad := badInputs()
	for _, c := range allCalls() {
		good := c.run(goodInput())
		if good[len(good)-1] != true {
			t.Error(c.name, "fails for valid arguments:", good)
		}
		for _, letter := range strings.Split(c.needs, "") {
			for _, in := range bad[letter] {
				got := c.run(in)
				wants(t, c.name+" with a bad argument "+letter, got, zeros(got)...)
			}
		}
	}
}

// wildInput is put together of valid and invalid arguments, without regard to what goes with what.
func wildInput(random *numbers) input {
	small := func() int { return random.below(12) - 2 }
	list := func(most int) []int {
		var numbers []int
		for range random.below(most) {
			n := random.below(70) - 3
			if random.below(8) == 0 {
				n = extremes[random.below(len(extremes))]
			}
			numbers = append(numbers, n)
		}
		return numbers
	}
	text := func(most int) string {
		letters := make([]byte, random.below(most))
		for i := range letters {
			letters[i] = "abchi0123489-- \x00\xff"[random.below(17)]
		}
		return string(letters)
	}
	in := input{
		board: plain(small(), small()), leaper: impl.Leaper{A: small(), B: small()},
		from: random.below(70) - 3, to: random.below(70) - 3, wide: small(), high: small(),
		leaps: random.below(20) - 3, index: random.below(20) - 3, path: list(80), numbers: list(70), name: text(4), text: text(20),
		colours: list(70), few: small(), p: small(), q: small(), m: small(), x: random.below(20) - 10, y: random.below(210) - 105,
		set: list(6), size: random.below(70) - 3,
		field: plain(small(), small()), first: list(6), second: list(6), most: random.below(6) - 1, steps: list(6),
		leap: list(4), other: list(4), round: list(8), around: small(),
		joined: impl.Around{Wide: random.below(16) - 1, High: random.below(16) - 1, Across: random.below(2) == 0, Upright: random.below(2) == 0},
		start:  random.below(150) - 3, goal: random.below(150) - 3, across: random.below(46) - 23, above: random.below(46) - 23,
		often: random.below(11) - 1, seldom: random.below(11) - 1, every: random.below(160) - 3,
		puzzle: wildPuzzle(random), gap: random.below(20) - 2, number: random.below(20) - 2, known: random.below(20) - 2, rate: random.below(25) - 2, told: wildPuzzleText(random),
		desk: wildDesk(random), line: wildLine(random), script: wildScript(random),
	}
	if random.below(2) == 0 {
		slices.Sort(in.set)
	}
	if random.below(2) == 0 {
		in.board.Holes = list(6)
		if random.below(2) == 0 {
			slices.Sort(in.board.Holes)
		}
	}
	if random.below(2) == 0 {
		in.colours = nil
		for cell := range in.board.Wide * in.board.High {
			in.colours = append(in.colours, random.below(11)-1)
			if isHole(in.board, cell) && random.below(8) > 0 {
				in.colours[cell] = -1
			}
		}
	}
	return in
}

// wildPuzzle is a puzzle, or has a part that spoils it.
func wildPuzzle(random *numbers) impl.Puzzle {
	p := blank(plain(1+random.below(5), 1+random.below(5)), allLeapers()[random.below(20)])
	for cell := range p.Numbers {
		switch random.below(12) {
		case 0, 1:
			p.Board.Holes = append(p.Board.Holes, cell)
		case 2, 3:
			p.Numbers[cell] = 1 + random.below(len(p.Numbers))
		}
	}
	switch random.below(16) {
	case 0:
		p.Board.Wide += random.below(3) - 1
	case 1:
		p.Leaper.A = random.below(8) - 1
	case 2:
		p.Numbers = append(p.Numbers, 0)
	case 3:
		p.Numbers = p.Numbers[1:]
	case 4:
		p.Numbers[random.below(len(p.Numbers))] = extremes[random.below(len(extremes))]
	}
	return p
}

// wildPuzzleText begins like a puzzle and goes on as it may.
func wildPuzzleText(random *numbers) string {
	text := []byte("1,2:")
	for range random.below(12) {
		text = append(text, ".#1,/.,"[random.below(7)])
	}
	if random.below(4) == 0 {
		text[random.below(len(text))] = "01259,:/.#-+ \x00\xff"[random.below(15)]
	}
	return string(text)
}

// wildDesk is a desk, or has a part that spoils it.
func wildDesk(random *numbers) impl.Desk {
	p := wildPuzzle(random)
	d := impl.Desk{Board: p.Board, Leaper: p.Leaper}
	if random.below(2) == 0 {
		d.Walk, _ = impl.FewestOnward(d.Board, d.Leaper, random.below(26)-1)
	}
	if random.below(4) == 0 {
		d.Walk = append(d.Walk, random.below(26)-1)
	}
	return d
}

// wildLine has up to four words, most of which are known in some place.
func wildLine(random *numbers) string {
	known := strings.Split("board leaper hole go back walk tour ring show cells leaps from tours done crossings guards peaceful a1 b2 c3 b1 0 1 2 3 4 05 6 999999 1000000 -1 x \x00 \xff no what", " ")
	words := []string{known[random.below(len(known))]}
	for range random.below(4) {
		words = append(words, append(known, "", "\n")[random.below(len(known)+2)])
	}
	return strings.Join(words, " ")
}

// wildScript mostly ends with a newline.
func wildScript(random *numbers) string {
	text := ""
	for range random.below(8) {
		text += wildLine(random) + "\n"
	}
	if random.below(8) == 0 {
		text += wildLine(random)
	}
	return text
}

// A call that fails has zeros beside its false, and no call panics.
func TestWildArguments(t *testing.T) {
	random := numbers(7)
	for range 20000 {
		in := wildInput(&random)
		for _, c := range allCalls() {
			got := c.run(in)
			if got[len(got)-1] == false {
				wants(t, c.name, got, zeros(got)...)
			}
		}
	}
}
