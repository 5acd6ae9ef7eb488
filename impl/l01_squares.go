package impl

import (
	"cmp"
	"iter"
	"maps"
	"slices"
	"strings"
)

// Codes of errors.
const (
	OK          = 0
	ErrInvalid  = 1
	ErrRange    = 2
	ErrLimit    = 3
	ErrState    = 4
	ErrSyntax   = 5
	ErrNotFound = 6
	ErrBudget   = 7
	ErrProof    = 8
)

// Limits of squares.
const (
	MaxEdge  = 12
	MaxSlabs = 60
)

// slabLetters has the letter of each slab of a text, by its index.
const slabLetters = "abcdefghijklmnopqrstuvwxyzABCDEFGHIJKLMNOPQRSTUVWXYZ01234567"

// openLetter stands for an open cell in a text.
const openLetter = '.'

// Slab covers cells.
type Slab struct {
	X    int8
	Y    int8
	Wide int8
	High int8
}

// Square has slabs.
type Square struct {
	Wide  int8
	High  int8
	Slabs []Slab
}

// Cell is a cell of a square.
type Cell struct {
	X int8
	Y int8
}

// grid has for each cell, by Y and then by X, one more than the index of its
// slab, so that 0 stands for an open cell and for all that is no cell.
type grid [MaxEdge][MaxEdge]int8

// gridOf returns the grid of a valid square.
func gridOf(q Square) grid {
	var g grid
	for i, s := range q.Slabs {
		g.lay(s, int8(i+1))
	}
	return g
}

// lay gives a number to all cells of a slab that lies within the grid.
func (g *grid) lay(s Slab, number int8) {
	for c := range cellsOf(s) {
		g[c.Y][c.X] = number
	}
}

// at returns the number of a cell, and 0 for one beyond the grid, so that the
// cells beside an edge need no check of their own.
func (g *grid) at(c Cell) int8 {
	if c.X < 0 || c.X >= MaxEdge || c.Y < 0 || c.Y >= MaxEdge {
		return 0
	}
	return g[c.Y][c.X]
}

// isOpen reports whether no cell of a slab within the grid is covered.
func (g *grid) isOpen(s Slab) bool {
	for c := range cellsOf(s) {
		if g.at(c) != 0 {
			return false
		}
	}
	return true
}

// isJointBetween reports whether there is a joint between two cells that have
// a side in common.
func (g *grid) isJointBetween(a, b Cell) bool {
	one, two := g.at(a), g.at(b)
	return one != 0 && two != 0 && one != two
}

// jointsEast returns how many joints follow each other from west to east, the
// first one along the north side of a cell.
func (g *grid) jointsEast(c Cell) int64 {
	var long int64
	for g.isJointBetween(Cell{c.X, c.Y - 1}, c) {
		long++
		c.X++
	}
	return long
}

// jointsSouth returns how many joints follow each other from north to south,
// the first one along the west side of a cell.
func (g *grid) jointsSouth(c Cell) int64 {
	var long int64
	for g.isJointBetween(Cell{c.X - 1, c.Y}, c) {
		long++
		c.Y++
	}
	return long
}

// cellsOf yields all cells that a slab covers, in their order.
func cellsOf(s Slab) iter.Seq[Cell] {
	return func(yield func(Cell) bool) {
		for y := s.Y; y < s.Y+s.High; y++ {
			for x := s.X; x < s.X+s.Wide; x++ {
				if !yield(Cell{x, y}) {
					return
				}
			}
		}
	}
}

// wholeOf returns the slab that would cover all of a square.
func wholeOf(q Square) Slab {
	return Slab{Wide: q.Wide, High: q.High}
}

// isSide reports whether a number may be the side of a square.
func isSide(n int64) bool {
	return n >= 1 && n <= MaxEdge
}

// liesWithin reports whether a slab has sides and lies within some sides. It
// adds in int64, for two numbers of an int8 can have a sum that is none.
func liesWithin(wide, high int8, s Slab) bool {
	return s.X >= 0 && s.Y >= 0 && s.Wide >= 1 && s.High >= 1 &&
		int64(s.X)+int64(s.Wide) <= int64(wide) && int64(s.Y)+int64(s.High) <= int64(high)
}

// hasCell reports whether a square has a cell.
func hasCell(q Square, at Cell) bool {
	return liesWithin(q.Wide, q.High, Slab{at.X, at.Y, 1, 1})
}

// hasSlab reports whether a square has a slab with an index.
func hasSlab(q Square, index int64) bool {
	return index >= 0 && index < int64(len(q.Slabs))
}

// comparePlaces orders slabs by their first cells.
func comparePlaces(a, b Slab) int {
	return cmp.Or(cmp.Compare(a.Y, b.Y), cmp.Compare(a.X, b.X))
}

// compareSizes orders slabs by their sides.
func compareSizes(a, b Slab) int {
	return cmp.Or(cmp.Compare(a.Wide, b.Wide), cmp.Compare(a.High, b.High))
}

// squareWith returns a square with slabs, which it keeps and brings into their
// order.
func squareWith(wide, high int8, slabs []Slab) Square {
	slices.SortFunc(slabs, comparePlaces)
	return Square{wide, high, slabs}
}

// CodeName returns the name of an error code.
func CodeName(code int64) string {
	names := [...]string{
		OK:          "ok",
		ErrInvalid:  "invalid",
		ErrRange:    "range",
		ErrLimit:    "limit",
		ErrState:    "state",
		ErrSyntax:   "syntax",
		ErrNotFound: "notfound",
		ErrBudget:   "budget",
		ErrProof:    "proof",
	}
	if code < 0 || code >= int64(len(names)) {
		return ""
	}
	return names[code]
}

// ValidSquare reports whether a square is valid.
func ValidSquare(q Square) bool {
	if !isSide(int64(q.Wide)) || !isSide(int64(q.High)) || len(q.Slabs) > MaxSlabs {
		return false
	}
	var g grid
	for i, s := range q.Slabs {
		if !liesWithin(q.Wide, q.High, s) || !g.isOpen(s) {
			return false
		}
		if i > 0 && comparePlaces(q.Slabs[i-1], s) >= 0 {
			return false
		}
		g.lay(s, int8(i+1))
	}
	return true
}

// SameSquare reports whether two squares are equal.
func SameSquare(a, b Square) bool {
	return a.Wide == b.Wide && a.High == b.High && slices.Equal(a.Slabs, b.Slabs)
}

// OpenSquare returns a square without slabs.
func OpenSquare(wide, high int64) (Square, int64) {
	if !isSide(wide) || !isSide(high) {
		return Square{}, ErrRange
	}
	return Square{Wide: int8(wide), High: int8(high)}, OK
}

// SlabAt returns the index of the slab that covers a cell.
func SlabAt(q Square, at Cell) (int64, int64) {
	if !ValidSquare(q) {
		return 0, ErrInvalid
	}
	if !hasCell(q, at) {
		return 0, ErrRange
	}
	g := gridOf(q)
	return int64(g.at(at)) - 1, OK
}

// OpenCells returns all cells that are covered by no slab.
func OpenCells(q Square) ([]Cell, int64) {
	if !ValidSquare(q) {
		return nil, ErrInvalid
	}
	g := gridOf(q)
	var open []Cell
	for c := range cellsOf(wholeOf(q)) {
		if g.at(c) == 0 {
			open = append(open, c)
		}
	}
	return open, OK
}

// LaidArea returns how many cells are covered.
func LaidArea(q Square) (int64, int64) {
	if !ValidSquare(q) {
		return 0, ErrInvalid
	}
	var area int64
	for _, s := range q.Slabs {
		area += int64(s.Wide) * int64(s.High)
	}
	return area, OK
}

// CanPut reports whether a slab can be put.
func CanPut(q Square, s Slab) (bool, int64) {
	if !ValidSquare(q) {
		return false, ErrInvalid
	}
	g := gridOf(q)
	return liesWithin(q.Wide, q.High, s) && g.isOpen(s), OK
}

// PutSlab puts a slab.
func PutSlab(q Square, s Slab) (Square, int64) {
	can, code := CanPut(q, s)
	if code != OK {
		return Square{}, code
	}
	if !can {
		return Square{}, ErrState
	}
	if len(q.Slabs) == MaxSlabs {
		return Square{}, ErrLimit
	}
	return squareWith(q.Wide, q.High, append(slices.Clone(q.Slabs), s)), OK
}

// LiftSlab takes a slab away.
func LiftSlab(q Square, index int64) (Square, Slab, int64) {
	if !ValidSquare(q) {
		return Square{}, Slab{}, ErrInvalid
	}
	if !hasSlab(q, index) {
		return Square{}, Slab{}, ErrRange
	}
	i := int(index)
	left := slices.Delete(slices.Clone(q.Slabs), i, i+1)
	return Square{q.Wide, q.High, left}, q.Slabs[i], OK
}

// besideOf returns the indices of all slabs beside one that q has; g is the
// grid of q.
func besideOf(q Square, g *grid, index int64) []int64 {
	var isBeside [MaxSlabs]bool
	for c := range cellsOf(q.Slabs[index]) {
		for _, d := range [4]Cell{{c.X, c.Y - 1}, {c.X + 1, c.Y}, {c.X, c.Y + 1}, {c.X - 1, c.Y}} {
			if g.isJointBetween(c, d) {
				isBeside[g.at(d)-1] = true
			}
		}
	}
	var list []int64
	for i, is := range isBeside {
		if is {
			list = append(list, int64(i))
		}
	}
	return list
}

// BesideSlab returns all slabs beside one.
func BesideSlab(q Square, index int64) ([]int64, int64) {
	if !ValidSquare(q) {
		return nil, ErrInvalid
	}
	if !hasSlab(q, index) {
		return nil, ErrRange
	}
	g := gridOf(q)
	return besideOf(q, &g, index), OK
}

// pieceWith returns the piece that has a slab; g is the grid of q.
func pieceWith(q Square, g *grid, index int64) []int64 {
	piece := []int64{index}
	for next := 0; next < len(piece); next++ {
		for _, i := range besideOf(q, g, piece[next]) {
			if !slices.Contains(piece, i) {
				piece = append(piece, i)
			}
		}
	}
	slices.Sort(piece)
	return piece
}

// PiecesOf returns all pieces of a square.
func PiecesOf(q Square) ([][]int64, int64) {
	if !ValidSquare(q) {
		return nil, ErrInvalid
	}
	g := gridOf(q)
	var pieces [][]int64
slabs:
	for index := range int64(len(q.Slabs)) {
		for _, piece := range pieces {
			if slices.Contains(piece, index) {
				continue slabs
			}
		}
		pieces = append(pieces, pieceWith(q, &g, index))
	}
	return pieces, OK
}

// LongestJoint returns the longest straight row of joints.
func LongestJoint(q Square) (Cell, int64, bool, int64) {
	if !ValidSquare(q) {
		return Cell{}, 0, false, ErrInvalid
	}
	g := gridOf(q)
	var first Cell
	var long int64
	var toEast bool
	// A row that begins within a longer one needs no check, for it is shorter.
	for c := range cellsOf(wholeOf(q)) {
		if n := g.jointsEast(c); n > long {
			first, long, toEast = c, n, true
		}
		if n := g.jointsSouth(c); n > long {
			first, long, toEast = c, n, false
		}
	}
	if long == 0 {
		return Cell{}, 0, false, ErrNotFound
	}
	return first, long, toEast, OK
}

// isCross reports whether four different slabs meet at the north west corner
// of a cell. Two cells across from each other that have one slab have it in
// common with the other two, so that the four sides tell all.
func (g *grid) isCross(c Cell) bool {
	northWest, north, west := Cell{c.X - 1, c.Y - 1}, Cell{c.X, c.Y - 1}, Cell{c.X - 1, c.Y}
	return g.isJointBetween(northWest, north) && g.isJointBetween(north, c) &&
		g.isJointBetween(c, west) && g.isJointBetween(west, northWest)
}

// CrossesIn returns all points where four slabs meet.
func CrossesIn(q Square) ([]Cell, int64) {
	if !ValidSquare(q) {
		return nil, ErrInvalid
	}
	g := gridOf(q)
	var crosses []Cell
	for c := range cellsOf(wholeOf(q)) {
		if g.isCross(c) {
			crosses = append(crosses, c)
		}
	}
	return crosses, OK
}

// SizesIn returns all sizes of slabs, and how many there are of each.
func SizesIn(q Square) ([]Slab, []int64, int64) {
	if !ValidSquare(q) {
		return nil, nil, ErrInvalid
	}
	countOf := map[Slab]int64{}
	for _, s := range q.Slabs {
		countOf[Slab{Wide: s.Wide, High: s.High}]++
	}
	sizes := slices.SortedFunc(maps.Keys(countOf), compareSizes)
	var counts []int64
	for _, size := range sizes {
		counts = append(counts, countOf[size])
	}
	return sizes, counts, OK
}

// placeFor returns the first slab of some sides that can be put, and whether
// there is one; g is the grid of q.
func placeFor(q Square, g *grid, wide, high int8) (Slab, bool) {
	for c := range cellsOf(wholeOf(q)) {
		s := Slab{c.X, c.Y, wide, high}
		if liesWithin(q.Wide, q.High, s) && g.isOpen(s) {
			return s, true
		}
	}
	return Slab{}, false
}

// FirstPlace returns the first cell at which a slab can be put.
func FirstPlace(q Square, wide, high int64) (Cell, int64) {
	if !ValidSquare(q) {
		return Cell{}, ErrInvalid
	}
	if !isSide(wide) || !isSide(high) {
		return Cell{}, ErrRange
	}
	g := gridOf(q)
	s, found := placeFor(q, &g, int8(wide), int8(high))
	if !found {
		return Cell{}, ErrNotFound
	}
	return Cell{s.X, s.Y}, OK
}

// FillWith puts slabs until there is no place.
func FillWith(q Square, wide, high int64) (Square, int64, int64) {
	if !ValidSquare(q) {
		return Square{}, 0, ErrInvalid
	}
	if !isSide(wide) || !isSide(high) {
		return Square{}, 0, ErrRange
	}
	g := gridOf(q)
	slabs := slices.Clone(q.Slabs)
	for len(slabs) < MaxSlabs {
		s, found := placeFor(q, &g, int8(wide), int8(high))
		if !found {
			break
		}
		slabs = append(slabs, s)
		g.lay(s, int8(len(slabs)))
	}
	put := int64(len(slabs) - len(q.Slabs))
	return squareWith(q.Wide, q.High, slabs), put, OK
}

// TurnSquare turns a square by a quarter.
func TurnSquare(q Square) (Square, int64) {
	if !ValidSquare(q) {
		return Square{}, ErrInvalid
	}
	var slabs []Slab
	for _, s := range q.Slabs {
		slabs = append(slabs, Slab{q.High - s.Y - s.High, s.X, s.High, s.Wide})
	}
	return squareWith(q.High, q.Wide, slabs), OK
}

// MirrorSquare exchanges west and east.
func MirrorSquare(q Square) (Square, int64) {
	if !ValidSquare(q) {
		return Square{}, ErrInvalid
	}
	var slabs []Slab
	for _, s := range q.Slabs {
		slabs = append(slabs, Slab{q.Wide - s.X - s.Wide, s.Y, s.Wide, s.High})
	}
	return squareWith(q.Wide, q.High, slabs), OK
}

// partWithin returns the part of a slab within another one, told by the first
// cell of that one, and whether there is any.
func partWithin(s, whole Slab) (Slab, bool) {
	x, y := max(s.X, whole.X), max(s.Y, whole.Y)
	wide := min(s.X+s.Wide, whole.X+whole.Wide) - x
	high := min(s.Y+s.High, whole.Y+whole.High) - y
	if wide < 1 || high < 1 {
		return Slab{}, false
	}
	return Slab{x - whole.X, y - whole.Y, wide, high}, true
}

// CutSquare returns a part of a square.
func CutSquare(q Square, s Slab) (Square, int64) {
	if !ValidSquare(q) {
		return Square{}, ErrInvalid
	}
	if !liesWithin(q.Wide, q.High, s) {
		return Square{}, ErrRange
	}
	var parts []Slab
	for _, slab := range q.Slabs {
		if part, some := partWithin(slab, s); some {
			parts = append(parts, part)
		}
	}
	// Slabs whose first cells are cut away can change their order.
	return squareWith(s.Wide, s.High, parts), OK
}

// SquareText returns the text of a square.
func SquareText(q Square) string {
	if !ValidSquare(q) {
		return ""
	}
	g := gridOf(q)
	var text strings.Builder
	for c := range cellsOf(wholeOf(q)) {
		if number := g.at(c); number == 0 {
			text.WriteByte(openLetter)
		} else {
			text.WriteByte(slabLetters[number-1])
		}
		if c.X == q.Wide-1 {
			text.WriteByte('\n')
		}
	}
	return text.String()
}

// readGrid returns the sides and the grid that the lines of a text tell, and
// whether they tell any.
func readGrid(text string) (Square, grid, bool) {
	wide := strings.IndexByte(text, '\n')
	if !isSide(int64(wide)) || len(text)%(wide+1) != 0 || !isSide(int64(len(text)/(wide+1))) {
		return Square{}, grid{}, false
	}
	q := Square{Wide: int8(wide), High: int8(len(text) / (wide + 1))}
	var g grid
	for c := range cellsOf(wholeOf(q)) {
		start := int(c.Y) * (wide + 1)
		letter := text[start+int(c.X)]
		number := strings.IndexByte(slabLetters, letter) + 1
		if number == 0 && letter != openLetter || text[start+wide] != '\n' {
			return Square{}, grid{}, false
		}
		g[c.Y][c.X] = int8(number)
	}
	return q, g, true
}

// boxesIn returns, for each number of a grid from 1 to the greatest one, the
// least slab that covers all of its cells.
func boxesIn(whole Slab, g *grid) []Slab {
	var boxes []Slab
	for c := range cellsOf(whole) {
		number := int(g.at(c))
		for len(boxes) < number {
			boxes = append(boxes, Slab{})
		}
		if number > 0 {
			boxes[number-1] = boxAround(boxes[number-1], c)
		}
	}
	return boxes
}

// boxAround returns the least slab that covers a box and a cell; a box without
// sides has no cell yet.
func boxAround(box Slab, c Cell) Slab {
	if box.Wide == 0 {
		return Slab{c.X, c.Y, 1, 1}
	}
	x, y := min(box.X, c.X), min(box.Y, c.Y)
	endX, endY := max(box.X+box.Wide, c.X+1), max(box.Y+box.High, c.Y+1)
	return Slab{x, y, endX - x, endY - y}
}

// ReadSquare returns the square with a text.
func ReadSquare(text string) (Square, int64) {
	q, g, ok := readGrid(text)
	if !ok {
		return Square{}, ErrSyntax
	}
	q.Slabs = boxesIn(wholeOf(q), &g)
	// A letter whose cells are no full rectangle has a box with other cells.
	if !ValidSquare(q) || gridOf(q) != g {
		return Square{}, ErrSyntax
	}
	return q, OK
}
