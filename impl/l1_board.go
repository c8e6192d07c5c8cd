package impl

import (
	"cmp"
	"slices"
	"strings"
)

const MaxStep = 5
const MaxBoard = 8

// maxPath is the greatest number of cells of a path: the document gives this limit without a name.
const maxPath = 64

type Leaper struct {
	A int
	B int
}

type Board struct {
	Wide  int
	High  int
	Holes []int
}

// A spot is a cell by its column and row, or a step by its changes of both: numbers of cells alone do not tell where a row ends.
type spot struct {
	x int
	y int
}

func spotOf(b Board, cell int) spot {
	return numbered(cell, b.Wide)
}

// numbered is the spot of a cell on a board with wide columns.
func numbered(cell int, wide int) spot {
	return spot{cell % wide, cell / wide}
}

func (s spot) compare(t spot) int {
	return cmp.Or(cmp.Compare(s.x, t.x), cmp.Compare(s.y, t.y))
}

// number is the number of the cell at s on a board with wide columns.
func (s spot) number(wide int) int {
	return s.y*wide + s.x
}

// plus is where a step from s ends, and minus is the step to s from a spot.
func (s spot) plus(step spot) spot {
	return spot{s.x + step.x, s.y + step.y}
}

func (s spot) minus(from spot) spot {
	return spot{s.x - from.x, s.y - from.y}
}

// turned is where s comes to on the turned board.
func (s spot) turned(b Board) spot {
	return spot{b.High - 1 - s.y, s.x}
}

// mirrored is where s comes to on the mirrored board.
func (s spot) mirrored(b Board) spot {
	return spot{b.Wide - 1 - s.x, s.y}
}

// A leap is the spot from which it leads, and its step.
type leap struct {
	spot
	step spot
}

func (p leap) end() spot {
	return p.plus(p.step)
}

// leadsOn reports whether p leads to a greater cell. Of a leap and the one back just one does, so it counts pairs once.
func (p leap) leadsOn() bool {
	return p.step.y > 0 || p.step.y == 0 && p.step.x > 0
}

// IsLeaper reports whether l, whose numbers may be any, is a leaper.
func IsLeaper(l Leaper) bool {
	return l.A >= 0 && l.A <= l.B && l.B >= 1 && l.B <= MaxStep
}

// IsBoard reports whether b, whose numbers may be any, is a board.
func IsBoard(b Board) bool {
	if !isSize(b.Wide) || !isSize(b.High) || len(b.Holes) >= b.Wide*b.High {
		return false
	}
	before := -1
	for _, hole := range b.Holes {
		if hole <= before || hole >= b.Wide*b.High {
			return false
		}
		before = hole
	}
	return true
}

func isSize(n int) bool {
	return n >= 1 && n <= MaxBoard
}

// PlainBoard returns the board of w by h cells without holes.
func PlainBoard(w int, h int) (Board, bool) {
	if !isSize(w) || !isSize(h) {
		return Board{}, false
	}
	return Board{Wide: w, High: h}, true
}

// CellsOf returns all cells that are there, increasing.
func CellsOf(b Board) ([]int, bool) {
	if !IsBoard(b) {
		return nil, false
	}
	return cellsThere(b), true
}

func cellsThere(b Board) []int {
	var cells []int
	for cell := range b.Wide * b.High {
		if isThere(b, cell) {
			cells = append(cells, cell)
		}
	}
	return cells
}

// CountCells returns how many these are.
func CountCells(b Board) (int, bool) {
	if !IsBoard(b) {
		return 0, false
	}
	return b.Wide*b.High - len(b.Holes), true
}

// HasCell reports whether a cell, which may be any number, is there.
func HasCell(b Board, cell int) (bool, bool) {
	if !IsBoard(b) {
		return false, false
	}
	return isThere(b, cell), true
}

// isThere is HasCell for a b that is known to be a board.
func isThere(b Board, cell int) bool {
	if cell < 0 || cell >= b.Wide*b.High {
		return false
	}
	_, hole := slices.BinarySearch(b.Holes, cell)
	return !hole
}

func areThere(b Board, cells []int) bool {
	return !slices.ContainsFunc(cells, func(cell int) bool { return !isThere(b, cell) })
}

// isOnBoard reports whether b is a board with this cell.
func isOnBoard(b Board, cell int) bool {
	return IsBoard(b) && isThere(b, cell)
}

// NameOf returns the name of a cell.
func NameOf(b Board, cell int) (string, bool) {
	if !isOnBoard(b, cell) {
		return "", false
	}
	return nameAt(spotOf(b, cell)), true
}

// nameAt needs one digit, as MaxBoard is less than 10.
func nameAt(s spot) string {
	return string([]byte{byte('a' + s.x), byte('1' + s.y)})
}

// CellOfName returns the cell with a name. It fails if there is none.
func CellOfName(b Board, name string) (int, bool) {
	if !IsBoard(b) || len(name) != 2 {
		return 0, false
	}
	s := spot{int(name[0]) - 'a', int(name[1]) - '1'}
	if !isSpotThere(b, s) {
		return 0, false
	}
	return s.number(b.Wide), true
}

// isSpotThere asks for the column and the row besides the number: beyond the end of a row this is that of a cell of another one, and far away it may be that of any cell, as it has just 64 bits.
func isSpotThere(b Board, s spot) bool {
	return s.isIn(b.Wide, b.High) && isThere(b, s.number(b.Wide))
}

// isIn reports whether s has one of so many columns and rows.
func (s spot) isIn(wide int, high int) bool {
	return s.x >= 0 && s.x < wide && s.y >= 0 && s.y < high
}

// StepsOf returns all steps of a leaper, as lists of the change of x and of y, in lexicographic order.
func StepsOf(l Leaper) ([][]int, bool) {
	if !IsLeaper(l) {
		return nil, false
	}
	var lists [][]int
	for _, s := range stepsOf(l) {
		lists = append(lists, []int{s.x, s.y})
	}
	return lists, true
}

// stepsOf drops the steps that come twice, with A 0 or A as B.
func stepsOf(l Leaper) []spot {
	var steps []spot
	for _, s := range [2]spot{{l.A, l.B}, {l.B, l.A}} {
		steps = append(steps, s, spot{-s.x, s.y}, spot{s.x, -s.y}, spot{-s.x, -s.y})
	}
	slices.SortFunc(steps, spot.compare)
	return slices.Compact(steps)
}

// LeapsFrom returns the cells to which a leaper leaps from a cell, increasing.
func LeapsFrom(b Board, l Leaper, cell int) ([]int, bool) {
	if !IsLeaper(l) || !isOnBoard(b, cell) {
		return nil, false
	}
	return leapCells(b, l, cell), true
}

// leapCells is LeapsFrom for arguments that are known to be valid.
func leapCells(b Board, l Leaper, cell int) []int {
	var cells []int
	for _, p := range leapsAt(b, l, cell) {
		cells = append(cells, p.end().number(b.Wide))
	}
	slices.Sort(cells)
	return cells
}

// leapsAt returns the leaps from a cell that end on cells that are there.
func leapsAt(b Board, l Leaper, cell int) []leap {
	var leaps []leap
	for _, step := range stepsOf(l) {
		p := leap{spot: spotOf(b, cell), step: step}
		if isSpotThere(b, p.end()) {
			leaps = append(leaps, p)
		}
	}
	return leaps
}

// IsLeap reports whether it leaps from one cell to another one.
func IsLeap(b Board, l Leaper, from int, to int) (bool, bool) {
	if !IsLeaper(l) || !isOnBoard(b, from) || !isThere(b, to) {
		return false, false
	}
	return doesLeap(b, l, from, to), true
}

// doesLeap is IsLeap for arguments that are known to be valid.
func doesLeap(b Board, l Leaper, from int, to int) bool {
	p, q := spotOf(b, from), spotOf(b, to)
	change := spot{apart(p.x, q.x), apart(p.y, q.y)}
	return change == spot{l.A, l.B} || change == spot{l.B, l.A}
}

func apart(m int, n int) int {
	return max(m-n, n-m)
}

// CountLeaps returns how many pairs of cells there are from one of which it leaps to the other one.
func CountLeaps(b Board, l Leaper) (int, bool) {
	if !IsLeaper(l) || !IsBoard(b) {
		return 0, false
	}
	pairs := 0
	for _, cell := range cellsThere(b) {
		pairs += countIf(leapsAt(b, l, cell), leap.leadsOn)
	}
	return pairs, true
}

func countIf(leaps []leap, counts func(leap) bool) int {
	n := 0
	for _, p := range leaps {
		if counts(p) {
			n++
		}
	}
	return n
}

// CountPlainLeaps returns how many these are on a board of w by h cells without holes: by the sizes alone.
func CountPlainLeaps(w int, h int, l Leaper) (int, bool) {
	if !isSize(w) || !isSize(h) || !IsLeaper(l) {
		return 0, false
	}
	pairs := room(w, l.A)*room(h, l.B) + room(w, l.B)*room(h, l.A)
	if l.A > 0 && l.A < l.B { // eight steps and not four
		pairs *= 2
	}
	return pairs, true
}

// room returns from how many of size columns or rows a step of that many of them stays within.
func room(size int, step int) int {
	return max(0, size-step)
}

// DegreesOf returns for each cell that is there, in order, how many leaps lead from it.
func DegreesOf(b Board, l Leaper) ([]int, bool) {
	if !IsLeaper(l) || !IsBoard(b) {
		return nil, false
	}
	var degrees []int
	for _, cell := range cellsThere(b) {
		degrees = append(degrees, len(leapsAt(b, l, cell)))
	}
	return degrees, true
}

// TurnBoard returns the board turned by a quarter to the left: the cell x, y comes to the column High - 1 - y and the row x.
func TurnBoard(b Board) (Board, bool) {
	if !IsBoard(b) {
		return Board{}, false
	}
	return Board{Wide: b.High, High: b.Wide, Holes: carryHoles(b, b.High, spot.turned)}, true
}

// carryHoles returns the holes of the board with wide columns to whose spots those of b are carried.
func carryHoles(b Board, wide int, carry func(spot, Board) spot) []int {
	var holes []int
	for _, hole := range b.Holes {
		holes = append(holes, carry(spotOf(b, hole), b).number(wide))
	}
	slices.Sort(holes)
	return holes
}

// TurnCell returns to which cell of that board a cell comes.
func TurnCell(b Board, cell int) (int, bool) {
	if !isOnBoard(b, cell) {
		return 0, false
	}
	return spotOf(b, cell).turned(b).number(b.High), true
}

// MirrorBoard returns the board with columns in the other order.
func MirrorBoard(b Board) (Board, bool) {
	if !IsBoard(b) {
		return Board{}, false
	}
	return Board{Wide: b.Wide, High: b.High, Holes: carryHoles(b, b.Wide, spot.mirrored)}, true
}

// MirrorCell returns to which cell of that board a cell comes.
func MirrorCell(b Board, cell int) (int, bool) {
	if !isOnBoard(b, cell) {
		return 0, false
	}
	return spotOf(b, cell).mirrored(b).number(b.Wide), true
}

// IsPath reports whether a list, whose numbers may be any, is a path.
func IsPath(b Board, l Leaper, path []int) (bool, bool) {
	if !IsLeaper(l) || !IsBoard(b) {
		return false, false
	}
	return isPath(b, l, path), true
}

// isPath is IsPath for a board and a leaper that are known to be valid.
func isPath(b Board, l Leaper, path []int) bool {
	if len(path) == 0 || len(path) > maxPath {
		return false
	}
	for i, cell := range path {
		if !isThere(b, cell) || i > 0 && !doesLeap(b, l, path[i-1], cell) {
			return false
		}
	}
	return true
}

// PathText returns the names of the cells of a list of at most 64 cells with - between them; an empty text for none.
func PathText(b Board, path []int) (string, bool) {
	if !IsBoard(b) || len(path) > maxPath {
		return "", false
	}
	var names []string
	for _, cell := range path {
		if !isThere(b, cell) {
			return "", false
		}
		names = append(names, nameAt(spotOf(b, cell)))
	}
	return strings.Join(names, "-"), true
}

// ParsePath returns the list of cells with a PathText. It fails if there is none.
func ParsePath(b Board, s string) ([]int, bool) {
	if !IsBoard(b) || len(s) >= maxPath*len("a1-") { // all names are as long, and the last one has no - behind it
		return nil, false
	}
	if s == "" {
		return nil, true
	}
	var path []int
	for _, name := range strings.Split(s, "-") {
		cell, ok := CellOfName(b, name)
		if !ok {
			return nil, false
		}
		path = append(path, cell)
	}
	return path, true
}
