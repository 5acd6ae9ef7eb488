package tests

import (
	"slices"

	"loop.example/g01383/impl"
)

// This file has a second, slow program for chapter 1, with which the other
// tests compare the results. It calls nothing of package impl.

// covers reports whether a slab covers a cell.
func covers(s impl.Slab, x, y int) bool {
	return x >= int(s.X) && x < int(s.X)+int(s.Wide) && y >= int(s.Y) && y < int(s.Y)+int(s.High)
}

// owner returns the index of the only slab that covers a cell, or -1; it
// returns -2 if there are several.
func owner(q impl.Square, x, y int) int {
	found := -1
	for i, s := range q.Slabs {
		if covers(s, x, y) {
			if found >= 0 {
				return -2
			}
			found = i
		}
	}
	return found
}

// isIn reports whether a slab has sides and lies within a square.
func isIn(q impl.Square, s impl.Slab) bool {
	return s.Wide > 0 && s.High > 0 && s.X >= 0 && s.Y >= 0 &&
		int(s.X)+int(s.Wide) <= int(q.Wide) && int(s.Y)+int(s.High) <= int(q.High)
}

// isFree reports whether a slab lies within a square, on open cells alone.
func isFree(q impl.Square, s impl.Slab) bool {
	if !isIn(q, s) {
		return false
	}
	for y := range int(q.High) {
		for x := range int(q.Wide) {
			if covers(s, x, y) && owner(q, x, y) != -1 {
				return false
			}
		}
	}
	return true
}

// place numbers the first cells of slabs in their order.
func place(s impl.Slab) int { return int(s.Y)*1000 + int(s.X) }

// inOrder returns a square with its slabs in their order.
func inOrder(q impl.Square) impl.Square {
	list := slices.Clone(q.Slabs)
	slices.SortFunc(list, func(a, b impl.Slab) int { return place(a) - place(b) })
	return impl.Square{Wide: q.Wide, High: q.High, Slabs: list}
}

// isRight reports whether a square is valid.
func isRight(q impl.Square) bool {
	if q.Wide < 1 || q.Wide > 12 || q.High < 1 || q.High > 12 || len(q.Slabs) > 60 {
		return false
	}
	for i, s := range q.Slabs {
		if !isIn(q, s) || i > 0 && place(q.Slabs[i-1]) >= place(s) {
			return false
		}
	}
	for y := range int(q.High) {
		for x := range int(q.Wide) {
			if owner(q, x, y) == -2 {
				return false
			}
		}
	}
	return true
}

// jointOf reports whether there is a joint between two cells beside each other.
func jointOf(q impl.Square, x, y, x2, y2 int) bool {
	a, b := owner(q, x, y), owner(q, x2, y2)
	return a >= 0 && b >= 0 && a != b
}

// besides returns all slabs beside one, by all pairs of cells.
func besides(q impl.Square, index int) []int64 {
	is := map[int]bool{}
	for y := range int(q.High) {
		for x := range int(q.Wide) {
			for _, d := range [][2]int{{0, 1}, {1, 0}} {
				if jointOf(q, x, y, x+d[0], y+d[1]) {
					a, b := owner(q, x, y), owner(q, x+d[0], y+d[1])
					is[a] = is[a] || b == index
					is[b] = is[b] || a == index
				}
			}
		}
	}
	var list []int64
	for i := range q.Slabs {
		if is[i] {
			list = append(list, int64(i))
		}
	}
	return list
}

// pieces gives the number of the least slab of its piece to each slab, until
// nothing changes.
func pieces(q impl.Square) [][]int64 {
	least := make([]int64, len(q.Slabs))
	for i := range least {
		least[i] = int64(i)
	}
	for changed := true; changed; {
		changed = false
		for i := range q.Slabs {
			for _, j := range besides(q, i) {
				if least[j] < least[i] {
					least[i], changed = least[j], true
				}
			}
		}
	}
	var list [][]int64
	for i := range q.Slabs {
		var piece []int64
		for j := range q.Slabs {
			if least[j] == int64(i) {
				piece = append(piece, int64(j))
			}
		}
		if piece != nil {
			list = append(list, piece)
		}
	}
	return list
}

// longest returns what LongestJoint has to: it tries each length, from the
// greatest one on, each cell in the order, and the way from west to east first.
func longest(q impl.Square) []any {
	for long := 12; long > 0; long-- {
		for y := range int(q.High) {
			for x := range int(q.Wide) {
				east, south := true, true
				for k := range long {
					east = east && jointOf(q, x+k, y-1, x+k, y)
					south = south && jointOf(q, x-1, y+k, x, y+k)
				}
				if east || south {
					return all(cell(int8(x), int8(y)), long, east, 0)
				}
			}
		}
	}
	return all(impl.Cell{}, 0, false, impl.ErrNotFound)
}

// crosses returns all cells at whose north west corners four slabs meet.
func crosses(q impl.Square) []impl.Cell {
	var list []impl.Cell
	for y := 1; y < int(q.High); y++ {
		for x := 1; x < int(q.Wide); x++ {
			is := map[int]bool{owner(q, x, y): true, owner(q, x-1, y): true, owner(q, x, y-1): true, owner(q, x-1, y-1): true}
			if len(is) == 4 && !is[-1] {
				list = append(list, cell(int8(x), int8(y)))
			}
		}
	}
	return list
}

// firstFree returns the first cell at which a slab can be put.
func firstFree(q impl.Square, wide, high int8) (impl.Cell, int64) {
	for y := range q.High {
		for x := range q.Wide {
			if isFree(q, slab(x, y, wide, high)) {
				return cell(x, y), impl.OK
			}
		}
	}
	return impl.Cell{}, impl.ErrNotFound
}

// filled puts slabs of some sides until there is none, or there are 60.
func filled(q impl.Square, wide, high int8) (impl.Square, int64) {
	var put int64
	for len(q.Slabs) < 60 {
		at, code := firstFree(q, wide, high)
		if code != impl.OK {
			break
		}
		q = inOrder(impl.Square{Wide: q.Wide, High: q.High, Slabs: append(slices.Clone(q.Slabs), slab(at.X, at.Y, wide, high))})
		put++
	}
	return q, put
}

// fromCells returns the square of some sides whose cells have the slabs that
// are told by any numbers (-1 for open cells), each slab being a rectangle.
func fromCells(wide, high int, numberAt func(x, y int) int) impl.Square {
	q := impl.Square{Wide: int8(wide), High: int8(high)}
	indexOf := map[int]int{-1: -1}
	for y := range high {
		for x := range wide {
			n := numberAt(x, y)
			i, known := indexOf[n]
			if !known {
				indexOf[n] = len(q.Slabs)
				q.Slabs = append(q.Slabs, slab(int8(x), int8(y), 1, 1))
			} else if i >= 0 {
				s := &q.Slabs[i]
				s.Wide, s.High = max(s.Wide, int8(x)-s.X+1), int8(y)-s.Y+1
			}
		}
	}
	return q
}

// letterAt returns the letter of a cell.
func letterAt(q impl.Square, x, y int) byte {
	i := owner(q, x, y)
	switch {
	case i < 0:
		return '.'
	case i < 26:
		return byte('a' + i)
	case i < 52:
		return byte('A' + i - 26)
	}
	return byte('0' + i - 52)
}

// textOf returns the text of a valid square.
func textOf(q impl.Square) string {
	s := ""
	for y := range int(q.High) {
		for x := range int(q.Wide) {
			s += string(rune(letterAt(q, x, y)))
		}
		s += "\n"
	}
	return s
}

// someSquare returns a valid square; a thick one has hardly an open cell.
func someSquare(d *dice, thick bool) impl.Square {
	q := square(int8(1+d.below(12)), int8(1+d.below(12)))
	tries, side := 20, 4
	if thick {
		tries, side = 300, 1+d.below(6)
	}
	for range tries {
		s := slab(int8(d.below(int(q.Wide))), int8(d.below(int(q.High))), int8(1+d.below(side)), int8(1+d.below(side)))
		if len(q.Slabs) < 60 && isFree(q, s) {
			q.Slabs = append(q.Slabs, s)
		}
	}
	return inOrder(q)
}

// gridSquare returns a square with as many slabs of 1 by 1 as told.
func gridSquare(count int) impl.Square {
	q := square(12, 12)
	for i := range count {
		q.Slabs = append(q.Slabs, slab(int8(i%12), int8(i/12), 1, 1))
	}
	return q
}

// someSquares returns valid squares of many kinds.
func someSquares() []impl.Square {
	list := []impl.Square{
		square(1, 1),
		square(12, 12),
		square(1, 1, slab(0, 0, 1, 1)),
		square(12, 12, slab(0, 0, 12, 12)),
		square(3, 3, slab(0, 0, 2, 1), slab(2, 0, 1, 2), slab(0, 1, 2, 2)),
		square(2, 2, slab(0, 0, 1, 1), slab(1, 0, 1, 1), slab(0, 1, 1, 1), slab(1, 1, 1, 1)),
		square(12, 1, slab(0, 0, 1, 1), slab(11, 0, 1, 1)),
		square(1, 12, slab(0, 0, 1, 1), slab(0, 11, 1, 1)),
		gridSquare(59),
		gridSquare(60),
	}
	d := dice(1)
	for i := range 160 {
		list = append(list, someSquare(&d, i%3 > 0))
	}
	return list
}

// notValid returns squares that are not valid, by what is wrong with them.
func notValid() map[string]impl.Square {
	return map[string]impl.Square{
		"the zero square":         {},
		"not wide":                square(0, 3),
		"not high":                square(3, 0),
		"too wide":                square(13, 3),
		"too high":                square(3, 13),
		"wide below 0":            square(-1, 3),
		"high below 0":            square(3, -128),
		"61 slabs":                gridSquare(61),
		"144 slabs":               gridSquare(144),
		"a slab not wide":         square(3, 3, slab(0, 0, 0, 1)),
		"a slab not high":         square(3, 3, slab(0, 0, 1, 0)),
		"a slab wide below 0":     square(3, 3, slab(2, 0, -1, 1)),
		"a slab high below 0":     square(3, 3, slab(0, 2, 1, -1)),
		"a slab west of it":       square(3, 3, slab(-1, 0, 2, 1)),
		"a slab north of it":      square(3, 3, slab(0, -1, 1, 2)),
		"a slab too far east":     square(3, 3, slab(2, 0, 2, 1)),
		"a slab too far south":    square(3, 3, slab(0, 2, 1, 2)),
		"a slab beyond the east":  square(3, 3, slab(3, 0, 1, 1)),
		"a slab beyond the south": square(3, 3, slab(0, 3, 1, 1)),
		"a sum of no int8, wide":  square(3, 3, slab(1, 0, 127, 1)),
		"a sum of no int8, high":  square(3, 3, slab(0, 1, 1, 127)),
		"a sum of 0 as an int8":   square(12, 12, slab(127, 127, 127, 127)),
		"a slab far away":         square(3, 3, slab(-128, -128, -128, -128)),
		"one cell covered twice":  square(3, 3, slab(0, 0, 2, 2), slab(1, 1, 2, 2)),
		"one slab in another one": square(3, 3, slab(0, 0, 3, 3), slab(1, 1, 1, 1)),
		"one slab twice":          square(3, 3, slab(1, 1, 1, 1), slab(1, 1, 1, 1)),
		"order of Y":              square(3, 3, slab(0, 1, 1, 1), slab(1, 0, 1, 1)),
		"order of X":              square(3, 3, slab(1, 0, 1, 1), slab(0, 0, 1, 1)),
		"order of the last ones":  square(3, 3, slab(0, 0, 1, 1), slab(0, 2, 1, 1), slab(0, 1, 1, 1)),
	}
}
