package tests

import (
	"fmt"
	"math"
	"slices"
	"strings"
	"testing"

	"loop.example/g01383/impl"
)

// none is the zero square, which comes with all codes but OK.
var none = impl.Square{}

func TestCodeName(t *testing.T) {
	for code, want := range []string{"ok", "invalid", "range", "limit", "state", "syntax", "notfound", "budget", "proof"} {
		check(t, "CodeName", impl.CodeName(int64(code)), want)
	}
	for _, code := range []int64{-1, 9, 256, 1 << 32, math.MinInt64, math.MaxInt64} {
		check(t, "CodeName of none", impl.CodeName(code), "")
	}
	check(t, "codes", all(impl.OK, impl.ErrInvalid, impl.ErrRange, impl.ErrLimit, impl.ErrState, impl.ErrSyntax, impl.ErrNotFound, impl.ErrBudget, impl.ErrProof, impl.MaxEdge, impl.MaxSlabs), all(0, 1, 2, 3, 4, 5, 6, 7, 8, 12, 60))
}

func TestSquaresOfTheModelAreValid(t *testing.T) {
	for i, q := range someSquares() {
		if !isRight(q) || !impl.ValidSquare(q) {
			t.Fatalf("square %d is not valid: %v", i, q)
		}
	}
}

// Promise 2: a square in which a cell has two slabs is not valid.
func TestNotValidSquares(t *testing.T) {
	for name, q := range notValid() {
		if impl.ValidSquare(q) || isRight(q) {
			t.Errorf("%s: valid", name)
		}
	}
	for _, side := range []int8{1, 12} {
		check(t, "sides that are reached", all(impl.ValidSquare(square(side, 1)), impl.ValidSquare(square(1, side))), "[true true]")
	}
}

// TestValidSquareOfAnySlabs tries slabs at random places, most of them wrong.
func TestValidSquareOfAnySlabs(t *testing.T) {
	d := dice(2)
	valid := 0
	for range 20000 {
		q := square(int8(1+d.below(4)), int8(1+d.below(4)))
		for range d.below(4) {
			s := slab(int8(d.below(4)), int8(d.below(4)), int8(1+d.below(2)), int8(1+d.below(2)))
			if d.below(8) == 0 {
				s = slab(s.X-1, s.Y-1, s.Wide-1, s.High-1)
			}
			q.Slabs = append(q.Slabs, s)
		}
		if d.below(4) > 0 {
			q = inOrder(q)
		}
		got := impl.ValidSquare(q)
		if got != isRight(q) {
			t.Fatalf("ValidSquare of %v: %v", q, got)
		}
		if got && len(q.Slabs) > 1 {
			valid++
		}
	}
	if valid < 100 {
		t.Errorf("only %d squares with slabs were valid", valid)
	}
}

// TestNotValidComesFirst calls each function with squares that are not valid,
// and with other arguments that are wrong as well.
func TestNotValidComesFirst(t *testing.T) {
	zero, far := slab(0, 0, 1, 1), slab(-1, 99, 0, 13)
	for name, q := range notValid() {
		for _, wrong := range []bool{false, true} {
			at, s, index, side := cell(0, 0), zero, int64(0), int64(1)
			if wrong {
				at, s, index, side = cell(-1, 12), far, -1, 13
			}
			check(t, "SlabAt of "+name, all(impl.SlabAt(q, at)), "[0 1]")
			check(t, "CanPut of "+name, all(impl.CanPut(q, s)), "[false 1]")
			check(t, "PutSlab of "+name, all(impl.PutSlab(q, s)), all(none, 1))
			check(t, "LiftSlab of "+name, all(impl.LiftSlab(q, index)), all(none, impl.Slab{}, 1))
			check(t, "BesideSlab of "+name, all(impl.BesideSlab(q, index)), "[[] 1]")
			check(t, "FirstPlace of "+name, all(impl.FirstPlace(q, side, 1)), all(impl.Cell{}, 1))
			check(t, "FirstPlace of "+name, all(impl.FirstPlace(q, 1, side)), all(impl.Cell{}, 1))
			check(t, "FillWith of "+name, all(impl.FillWith(q, side, 1)), all(none, 0, 1))
			check(t, "FillWith of "+name, all(impl.FillWith(q, 1, side)), all(none, 0, 1))
			check(t, "CutSquare of "+name, all(impl.CutSquare(q, s)), all(none, 1))
		}
		check(t, "OpenCells of "+name, all(impl.OpenCells(q)), "[[] 1]")
		check(t, "LaidArea of "+name, all(impl.LaidArea(q)), "[0 1]")
		check(t, "PiecesOf of "+name, all(impl.PiecesOf(q)), "[[] 1]")
		check(t, "LongestJoint of "+name, all(impl.LongestJoint(q)), all(impl.Cell{}, 0, false, 1))
		check(t, "CrossesIn of "+name, all(impl.CrossesIn(q)), "[[] 1]")
		check(t, "SizesIn of "+name, all(impl.SizesIn(q)), "[[] [] 1]")
		check(t, "TurnSquare of "+name, all(impl.TurnSquare(q)), all(none, 1))
		check(t, "MirrorSquare of "+name, all(impl.MirrorSquare(q)), all(none, 1))
		check(t, "SquareText of "+name, impl.SquareText(q), "")
	}
}

func TestSameSquare(t *testing.T) {
	a := square(3, 2, slab(0, 0, 1, 1), slab(1, 0, 2, 1))
	check(t, "itself", impl.SameSquare(a, square(3, 2, slab(0, 0, 1, 1), slab(1, 0, 2, 1))), true)
	others := []impl.Square{
		square(4, 2, a.Slabs...),
		square(3, 3, a.Slabs...),
		square(3, 2, a.Slabs[:1]...),
		square(3, 2, a.Slabs[0], a.Slabs[1], slab(0, 1, 1, 1)),
		square(3, 2, a.Slabs[1], a.Slabs[0]),
		square(3, 2, slab(0, 0, 1, 1), slab(0, 0, 2, 1)),
		square(3, 2, slab(0, 0, 1, 1), slab(1, 1, 2, 1)),
		square(3, 2, slab(0, 0, 1, 1), slab(1, 0, 1, 1)),
		square(3, 2, slab(0, 0, 1, 1), slab(1, 0, 2, 2)),
		none,
	}
	for i, b := range others {
		check(t, fmt.Sprint("other ", i), all(impl.SameSquare(a, b), impl.SameSquare(b, a)), "[false false]")
	}
	for name, b := range notValid() {
		check(t, "not valid: "+name, all(impl.SameSquare(b, b), impl.SameSquare(a, b)), "[true false]")
	}
	check(t, "nil and empty", impl.SameSquare(square(2, 2), impl.Square{Wide: 2, High: 2, Slabs: []impl.Slab{}}), true)
}

func TestOpenSquare(t *testing.T) {
	for wide := int64(1); wide <= 12; wide++ {
		for high := int64(1); high <= 12; high++ {
			check(t, "OpenSquare", all(impl.OpenSquare(wide, high)), all(square(int8(wide), int8(high)), 0))
		}
	}
	for _, side := range []int64{0, 13, -1, 256, 257, 1<<32 + 1, math.MinInt64, math.MaxInt64} {
		check(t, "OpenSquare, too wide", all(impl.OpenSquare(side, 1)), all(none, 2))
		check(t, "OpenSquare, too high", all(impl.OpenSquare(1, side)), all(none, 2))
	}
}

// Promises 2 and 18: cells that are laid and open are all cells.
func TestCellsAreLaidOrOpen(t *testing.T) {
	for i, q := range someSquares() {
		var open []impl.Cell
		laid := 0
		for y := range q.High {
			for x := range q.Wide {
				want := owner(q, int(x), int(y))
				check(t, fmt.Sprint("SlabAt of ", i), all(impl.SlabAt(q, cell(x, y))), all(want, 0))
				if want < 0 {
					open = append(open, cell(x, y))
				} else {
					laid++
				}
			}
		}
		check(t, fmt.Sprint("OpenCells of ", i), all(impl.OpenCells(q)), all(open, 0))
		check(t, fmt.Sprint("LaidArea of ", i), all(impl.LaidArea(q)), all(laid, 0))
		check(t, fmt.Sprint("cells of ", i), laid+len(open), int(q.Wide)*int(q.High))
		for _, at := range []impl.Cell{{X: -1}, {Y: -1}, {X: q.Wide}, {Y: q.High}, {X: 127}, {Y: 127}, {X: -128, Y: -128}, {X: q.Wide, Y: q.High}} {
			check(t, fmt.Sprint("SlabAt beyond ", i), all(impl.SlabAt(q, at)), "[0 2]")
		}
	}
}

// slabsAround returns slabs within and around a square: each one if it is
// small, and some of them otherwise.
func slabsAround(q impl.Square) []impl.Slab {
	var list []impl.Slab
	d := dice(3)
	for y := int8(-1); y <= q.High; y++ {
		for x := int8(-1); x <= q.Wide; x++ {
			for wide := int8(-1); wide <= q.Wide+1; wide++ {
				for high := int8(-1); high <= q.High+1; high++ {
					if int(q.Wide)*int(q.High) <= 9 || d.below(200) == 0 {
						list = append(list, slab(x, y, wide, high))
					}
				}
			}
		}
	}
	return append(list, slab(127, 0, 1, 1), slab(0, 127, 1, 1), slab(1, 0, 127, 1), slab(0, 1, 1, 127), slab(127, 127, 127, 127), slab(-128, -128, -128, -128), slab(-1, 0, 2, 1), slab(0, 0, -128, -128))
}

// Promise 2: a slab is put on open cells alone, and is lifted again.
func TestPutAndLift(t *testing.T) {
	for i, q := range someSquares() {
		for _, s := range slabsAround(q) {
			name := fmt.Sprint("square ", i, " slab ", s)
			free := isFree(q, s)
			check(t, "CanPut: "+name, all(impl.CanPut(q, s)), all(free, 0))
			with, code := impl.PutSlab(q, s)
			if !free {
				check(t, "PutSlab: "+name, all(with, code), all(none, 4))
				continue
			}
			if len(q.Slabs) == 60 {
				check(t, "PutSlab: "+name, all(with, code), all(none, 3))
				continue
			}
			check(t, "PutSlab: "+name, all(with, code), all(inOrder(square(q.Wide, q.High, append(slices.Clone(q.Slabs), s)...)), 0))
			index := slices.Index(with.Slabs, s)
			check(t, "LiftSlab: "+name, all(impl.LiftSlab(with, int64(index))), all(q, s, 0))
		}
	}
}

func TestLiftSlab(t *testing.T) {
	for i, q := range someSquares() {
		for index, s := range q.Slabs {
			left := slices.Concat(q.Slabs[:index], q.Slabs[index+1:])
			check(t, fmt.Sprint("LiftSlab of ", i), all(impl.LiftSlab(q, int64(index))), all(square(q.Wide, q.High, left...), s, 0))
		}
		count := int64(len(q.Slabs))
		for _, index := range []int64{-1, count, count + 1, 256 + count - 1, 1 << 32, math.MinInt64, math.MaxInt64} {
			check(t, fmt.Sprint("LiftSlab beyond ", i), all(impl.LiftSlab(q, index)), all(none, impl.Slab{}, 2))
			check(t, fmt.Sprint("BesideSlab beyond ", i), all(impl.BesideSlab(q, index)), "[[] 2]")
		}
	}
}

// TestSlabLimit reaches MaxSlabs exactly.
func TestSlabLimit(t *testing.T) {
	last := slab(11, 4, 1, 1)
	full, code := impl.PutSlab(gridSquare(59), last)
	check(t, "the slab 60", all(full, code), all(gridSquare(60), 0))
	open := slab(11, 11, 1, 1)
	check(t, "CanPut asks no limit", all(impl.CanPut(full, open)), "[true 0]")
	check(t, "the slab 61", all(impl.PutSlab(full, open)), all(none, 3))
	check(t, "state before limit", all(impl.PutSlab(full, slab(0, 0, 1, 1))), all(none, 4))
	check(t, "FirstPlace asks no limit", all(impl.FirstPlace(full, 12, 7)), all(cell(0, 5), 0))
	check(t, "FillWith at the limit", all(impl.FillWith(full, 1, 1)), all(full, 0, 0))
	check(t, "FillWith up to the limit", all(impl.FillWith(gridSquare(58), 1, 1)), all(full, 2, 0))
	check(t, "FillWith of an open square", all(impl.FillWith(square(12, 12), 1, 1)), all(full, 60, 0))
}

func TestBesideSlab(t *testing.T) {
	for i, q := range someSquares() {
		for index := range q.Slabs {
			check(t, fmt.Sprint("BesideSlab of ", i), all(impl.BesideSlab(q, int64(index))), all(besides(q, index), 0))
		}
	}
	q := read(t, "ab.", "c.d")
	check(t, "corners alone are not beside", all(impl.BesideSlab(q, 1)), "[[0] 0]")
	check(t, "open cells lie between", all(impl.BesideSlab(q, 3)), "[[] 0]")
	check(t, "from each side, each one once", all(impl.BesideSlab(read(t, ".aabb", "cddde", ".ffgg"), 3)), "[[0 1 2 4 5 6] 0]")
}

// Promise 3: pieces have all slabs, each one once.
func TestPiecesHaveAllSlabs(t *testing.T) {
	many := 0
	for i, q := range someSquares() {
		got, code := impl.PiecesOf(q)
		check(t, fmt.Sprint("PiecesOf of ", i), all(got, code), all(pieces(q), 0))
		found := slices.Concat(got...)
		slices.Sort(found)
		for index := range q.Slabs {
			if len(found) != len(q.Slabs) || found[index] != int64(index) {
				t.Fatalf("PiecesOf of %d has not each slab once: %v", i, got)
			}
		}
		if len(got) > 2 {
			many++
		}
	}
	if many < 10 {
		t.Errorf("only %d squares have several pieces", many)
	}
	check(t, "no slabs", all(impl.PiecesOf(square(3, 3))), "[[] 0]")
	check(t, "by their first numbers", all(impl.PiecesOf(read(t, "a.b.c", "..b..", "d.eef"))), "[[[0] [1 4 5] [2] [3]] 0]")
	check(t, "a way through later ones", all(impl.PiecesOf(read(t, "a.b", "c.d", "eee"))), "[[[0 1 2 3 4]] 0]")
}

func TestLongestJoint(t *testing.T) {
	for i, q := range someSquares() {
		check(t, fmt.Sprint("LongestJoint of ", i), all(impl.LongestJoint(q)), longest(q))
	}
	none := all(impl.Cell{}, 0, false, 6)
	check(t, "no slabs", all(impl.LongestJoint(square(2, 2))), none)
	check(t, "one slab", all(impl.LongestJoint(read(t, "aa", "aa"))), none)
	check(t, "open cells between", all(impl.LongestJoint(read(t, "a.b", "...", "c.d"))), none)
	check(t, "an edge is none", all(impl.LongestJoint(read(t, "ab"))), all(cell(1, 0), 1, false, 0))
}

func TestLongestJointOfSeveral(t *testing.T) {
	check(t, "a row to the south", all(impl.LongestJoint(read(t, "ab", "ab", "ab"))), all(cell(1, 0), 3, false, 0))
	check(t, "a row to the east", all(impl.LongestJoint(read(t, "aaa", "bbb"))), all(cell(0, 1), 3, true, 0))
	check(t, "both with one cell: to the east", all(impl.LongestJoint(read(t, ".a", "bc"))), all(cell(1, 1), 1, true, 0))
	check(t, "the first cell, to the south", all(impl.LongestJoint(read(t, "ab", "cd"))), all(cell(1, 0), 2, false, 0))
	check(t, "the first cell by Y", all(impl.LongestJoint(read(t, ".ab", "c..", "d.."))), all(cell(2, 0), 1, false, 0))
	check(t, "a row over several slabs", all(impl.LongestJoint(read(t, "aabc", "deef", "deef"))), all(cell(0, 1), 4, true, 0))
	check(t, "a row that an open cell ends", all(impl.LongestJoint(read(t, "aab.cc", "ddd.ee"))), all(cell(0, 1), 3, true, 0))
}

func TestCrossesIn(t *testing.T) {
	for i, q := range someSquares() {
		check(t, fmt.Sprint("CrossesIn of ", i), all(impl.CrossesIn(q)), all(crosses(q), 0))
	}
	check(t, "four slabs", all(impl.CrossesIn(read(t, "ab", "cd"))), "[[{1 1}] 0]")
	check(t, "three slabs", all(impl.CrossesIn(read(t, "aa", "bc"))), "[[] 0]")
	check(t, "three slabs and an open cell", all(impl.CrossesIn(read(t, "ab", "c."))), "[[] 0]")
	check(t, "three slabs and an open cell", all(impl.CrossesIn(read(t, ".a", "bc"))), "[[] 0]")
	check(t, "ordered", all(impl.CrossesIn(read(t, "abbc", "deef", "ghij"))), "[[{1 1} {3 1} {1 2} {3 2}] 0]")
	got, _ := impl.CrossesIn(gridSquare(60))
	check(t, "as many as can be", len(got), 44)
}

func TestSizesIn(t *testing.T) {
	for i, q := range someSquares() {
		var sizes []impl.Slab
		var counts []int64
		for wide := int8(1); wide <= 12; wide++ {
			for high := int8(1); high <= 12; high++ {
				var n int64
				for _, s := range q.Slabs {
					if s.Wide == wide && s.High == high {
						n++
					}
				}
				if n > 0 {
					sizes, counts = append(sizes, slab(0, 0, wide, high)), append(counts, n)
				}
			}
		}
		check(t, fmt.Sprint("SizesIn of ", i), all(impl.SizesIn(q)), all(sizes, counts, 0))
	}
	check(t, "by Wide, and then by High", all(impl.SizesIn(read(t, "aabc", "aadc", "eefc"))), "[[{0 0 1 1} {0 0 1 3} {0 0 2 1} {0 0 2 2}] [3 1 1 1] 0]")
}

func TestFirstPlaceAndFillWith(t *testing.T) {
	for i, q := range someSquares() {
		for wide := int8(1); wide <= 12; wide++ {
			for high := int8(1); high <= 12; high += 1 + int8(i%3) {
				name := fmt.Sprint(" of ", i, " with ", wide, " by ", high)
				at, code := firstFree(q, wide, high)
				check(t, "FirstPlace"+name, all(impl.FirstPlace(q, int64(wide), int64(high))), all(at, code))
				full, put := filled(q, wide, high)
				check(t, "FillWith"+name, all(impl.FillWith(q, int64(wide), int64(high))), all(full, put, 0))
			}
		}
	}
	for _, q := range []impl.Square{square(2, 2), gridSquare(60), square(1, 1, slab(0, 0, 1, 1))} {
		for _, side := range []int64{0, 13, -1, 256, 257, 1<<32 + 1, math.MinInt64, math.MaxInt64} {
			check(t, "FirstPlace, too wide", all(impl.FirstPlace(q, side, 1)), all(impl.Cell{}, 2))
			check(t, "FirstPlace, too high", all(impl.FirstPlace(q, 1, side)), all(impl.Cell{}, 2))
			check(t, "FillWith, too wide", all(impl.FillWith(q, side, 1)), all(none, 0, 2))
			check(t, "FillWith, too high", all(impl.FillWith(q, 1, side)), all(none, 0, 2))
		}
	}
	check(t, "sides that are reached", all(impl.FirstPlace(square(12, 12), 12, 12)), all(impl.Cell{}, 0))
	check(t, "no place", all(impl.FirstPlace(square(2, 2), 3, 1)), all(impl.Cell{}, 6))
	check(t, "no place to fill", all(impl.FillWith(square(2, 2), 3, 1)), all(square(2, 2), 0, 0))
}

// Promise 4: a square that is turned four times is as it was.
func TestTurnedFourTimes(t *testing.T) {
	for i, q := range someSquares() {
		now := q
		for range 4 {
			was := now
			wide, high := int(was.Wide), int(was.High)
			want := fromCells(high, wide, func(x, y int) int { return owner(was, y, high-1-x) })
			var code int64
			now, code = impl.TurnSquare(was)
			check(t, fmt.Sprint("TurnSquare of ", i), all(now, code), all(want, 0))
			check(t, fmt.Sprint("valid when turned: ", i), impl.ValidSquare(now), true)
		}
		check(t, fmt.Sprint("turned four times: ", i), impl.SameSquare(now, q), true)
	}
	turned, _ := impl.TurnSquare(read(t, "abb", "..."))
	check(t, "north becomes east", impl.SquareText(turned), text(".a", ".b", ".b"))
}

func TestMirrorSquare(t *testing.T) {
	for i, q := range someSquares() {
		wide, high := int(q.Wide), int(q.High)
		want := fromCells(wide, high, func(x, y int) int { return owner(q, wide-1-x, y) })
		got, code := impl.MirrorSquare(q)
		check(t, fmt.Sprint("MirrorSquare of ", i), all(got, code), all(want, 0))
		check(t, fmt.Sprint("mirrored twice: ", i), all(impl.MirrorSquare(got)), all(q, 0))
	}
}

func TestCutSquare(t *testing.T) {
	for i, q := range someSquares() {
		for _, s := range append(slabsAround(q), slab(0, 0, q.Wide, q.High)) {
			name := fmt.Sprint("CutSquare of ", i, " by ", s)
			got, code := impl.CutSquare(q, s)
			if !isIn(q, s) {
				check(t, name, all(got, code), all(none, 2))
				continue
			}
			want := fromCells(int(s.Wide), int(s.High), func(x, y int) int { return owner(q, int(s.X)+x, int(s.Y)+y) })
			check(t, name, all(got, code), all(want, 0))
			check(t, "valid: "+name, impl.ValidSquare(got), true)
		}
	}
	cut, _ := impl.CutSquare(read(t, "..a", "bba"), slab(0, 1, 3, 1))
	check(t, "the order of parts", cut, square(3, 1, slab(0, 0, 2, 1), slab(2, 0, 1, 1)))
}

func TestSquareText(t *testing.T) {
	for i, q := range someSquares() {
		want := textOf(q)
		check(t, fmt.Sprint("SquareText of ", i), impl.SquareText(q), want)
		check(t, fmt.Sprint("ReadSquare of ", i), all(impl.ReadSquare(want)), all(q, 0))
	}
	check(t, "all letters", impl.SquareText(gridSquare(60)), text("abcdefghijkl", "mnopqrstuvwx", "yzABCDEFGHIJ", "KLMNOPQRSTUV", "WXYZ01234567", "............", "............", "............", "............", "............", "............", "............"))
}

// isText reports whether a text is that of a valid square: by a square that
// has the letters of the text, and by the text of this one.
func isText(s string) bool {
	rows := strings.Split(s, "\n")
	wide, high := len(rows[0]), len(rows)-1
	if wide < 1 || wide > 12 || high < 1 || high > 12 {
		return false
	}
	for _, row := range rows[:high] {
		if len(row) != wide {
			return false
		}
	}
	q := fromCells(wide, high, func(x, y int) int {
		if rows[y][x] == '.' {
			return -1
		}
		return int(rows[y][x])
	})
	return isRight(q) && textOf(q) == s
}

func TestReadSquareOfNoText(t *testing.T) {
	for _, s := range []string{
		"", "\n", "\n\n", "a", "ab", "a\n\n", "\na\n", "a\nb", "ab\nc\n", "a\nbc\n", "a\r\n", " a\n", "a \n", "a\n ",
		"b\n", "ac\n", "ba\n", "A\n", "0\n", "8\n", "9\n", "-\n", "a,\n", "\x00\n", "\xff\n", "é\n", "aba\n", "a.a\n",
		"ab\nba\n", "aa\na.\n", "a.\n.a\n", "aa\nab\n", "aaa\naba\naaa\n", "aaa\na.a\naaa\n", "aabb\nabbb\n", ".a\na.\n",
		"aaaaaaaaaaaaa\n", strings.Repeat("a\n", 13), strings.Repeat(".", 13) + "\n", strings.Repeat(".\n", 13), "ab\ncd\n\n", "ab\ncd", "ab\ncd\ne",
	} {
		if isText(s) {
			t.Fatalf("isText of %q", s)
		}
		check(t, fmt.Sprintf("ReadSquare of %q", s), all(impl.ReadSquare(s)), all(none, 5))
	}
	q, _ := impl.ReadSquare(strings.Repeat("aaaaaaaaaaaa\n", 12))
	check(t, "as long as can be", q, square(12, 12, slab(0, 0, 12, 12)))
	if _, code := impl.ReadSquare(textOf(gridSquare(60))[:60] + "8" + textOf(gridSquare(60))[61:]); code != impl.ErrSyntax {
		t.Errorf("a slab 61: %d", code)
	}
}

// TestReadSquareOfChangedTexts changes single bytes of texts.
func TestReadSquareOfChangedTexts(t *testing.T) {
	d := dice(4)
	good := 0
	for _, q := range someSquares() {
		from := textOf(q)
		for range 60 {
			s := []byte(from)
			bytes := ".abcdefzAZ07\n89 " + from
			s[d.below(len(s))] = bytes[d.below(len(bytes))]
			good += checkRead(t, string(s), isText(string(s)), impl.ReadSquare, impl.SquareText)
		}
	}
	if good < 100 {
		t.Errorf("only %d texts were good", good)
	}
}

// Promise 1: no function modifies its arguments, and all results are equal for
// equal arguments, in memory of their own.
func TestSquaresArePure(t *testing.T) {
	for i, q := range someSquares() {
		if i%4 > 0 && i > 10 {
			continue
		}
		kept := slab(7, 7, 7, 7)
		q.Slabs = roomy(q.Slabs, kept)
		other := square(q.Wide, q.High, roomy(q.Slabs, kept)...)
		part := slab(0, 0, (q.Wide+1)/2, (q.High+1)/2)
		place, _ := firstFree(q, 1, 1)
		new := slab(place.X, place.Y, 1, 1)
		for name, call := range map[string]func() []any{
			"ValidSquare":  func() []any { return all(impl.ValidSquare(q)) },
			"SameSquare":   func() []any { return all(impl.SameSquare(q, other)) },
			"OpenSquare":   func() []any { return all(impl.OpenSquare(3, 4)) },
			"SlabAt":       func() []any { return all(impl.SlabAt(q, cell(0, 0))) },
			"OpenCells":    func() []any { return all(impl.OpenCells(q)) },
			"LaidArea":     func() []any { return all(impl.LaidArea(q)) },
			"CanPut":       func() []any { return all(impl.CanPut(q, new)) },
			"PutSlab":      func() []any { return all(impl.PutSlab(q, new)) },
			"LiftSlab":     func() []any { return all(impl.LiftSlab(q, 0)) },
			"LiftSlab 1":   func() []any { return all(impl.LiftSlab(q, int64(len(q.Slabs)-1))) },
			"BesideSlab":   func() []any { return all(impl.BesideSlab(q, 0)) },
			"PiecesOf":     func() []any { return all(impl.PiecesOf(q)) },
			"LongestJoint": func() []any { return all(impl.LongestJoint(q)) },
			"CrossesIn":    func() []any { return all(impl.CrossesIn(q)) },
			"SizesIn":      func() []any { return all(impl.SizesIn(q)) },
			"FirstPlace":   func() []any { return all(impl.FirstPlace(q, 1, 2)) },
			"FillWith":     func() []any { return all(impl.FillWith(q, 1, 2)) },
			"FillWith, no": func() []any { return all(impl.FillWith(q, 12, 12)) },
			"TurnSquare":   func() []any { return all(impl.TurnSquare(q)) },
			"MirrorSquare": func() []any { return all(impl.MirrorSquare(q)) },
			"CutSquare":    func() []any { return all(impl.CutSquare(q, part)) },
			"CutSquare, 1": func() []any { return all(impl.CutSquare(q, slab(0, 0, q.Wide, q.High))) },
			"SquareText":   func() []any { return all(impl.SquareText(q)) },
			"ReadSquare":   func() []any { return all(impl.ReadSquare(textOf(q))) },
			"CodeName":     func() []any { return all(impl.CodeName(3)) },
		} {
			checkPure(t, fmt.Sprint(name, " of ", i), all(q, other), call)
		}
	}
}

// Promise 1: functions return for great arguments, too.
func TestSquaresOfManySlabs(t *testing.T) {
	many := square(12, 12, make([]impl.Slab, 1000000)...)
	check(t, "ValidSquare", impl.ValidSquare(many), false)
	check(t, "SameSquare", impl.SameSquare(many, square(12, 12, make([]impl.Slab, 1000000)...)), true)
	check(t, "SquareText", impl.SquareText(many), "")
	check(t, "PiecesOf", all(impl.PiecesOf(many)), "[[] 1]")
	for _, s := range []string{"a", "\n", "a\n", ".", ".\n", "............\n", "\xff"} {
		long := strings.Repeat(s, 1000000/len(s))
		check(t, "ReadSquare of much", all(impl.ReadSquare(long)), all(none, 5))
	}
}

// TestExampleOfSquares is the example of the document.
func TestExampleOfSquares(t *testing.T) {
	q := read(t, "aab", "ccb", "cc.")
	check(t, "slabs", q, square(3, 3, slab(0, 0, 2, 1), slab(2, 0, 1, 2), slab(0, 1, 2, 2)))
	check(t, "area", all(impl.LaidArea(q)), "[8 0]")
	check(t, "open cells", all(impl.OpenCells(q)), "[[{2 2}] 0]")
	check(t, "beside", all(impl.BesideSlab(q, 0)), "[[1 2] 0]")
	check(t, "joint", all(impl.LongestJoint(q)), "[{2 0} 2 false 0]")
	check(t, "crosses", all(impl.CrossesIn(q)), "[[] 0]")
	turned, _ := impl.TurnSquare(q)
	check(t, "turned", impl.SquareText(turned), text("aab", "aab", ".cc"))
}
