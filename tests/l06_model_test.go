package tests

import (
	"regexp"
	"slices"
	"strconv"
	"strings"

	"loop.example/g01383/impl"
)

// This file has a second, slow program for chapter 6. It looks at the cells on
// both sides of each edge, lets slabs sink year by year, and tries all sets of
// slabs. It calls nothing of package impl.

// cornersOf returns all points of a square, in their order.
func cornersOf(q impl.Square) []impl.Cell {
	var list []impl.Cell
	for y := range int(q.High) + 1 {
		for x := range int(q.Wide) + 1 {
			list = append(list, cell(int8(x), int8(y)))
		}
	}
	return list
}

// notCorners returns cells that are no points of a square.
func notCorners(q impl.Square) []impl.Cell {
	return notPoints(impl.Ground{Wide: q.Wide + 1, High: q.High + 1})
}

// sides returns the slabs on both sides of the edge between two points, and
// whether this edge is a joint.
func (by owners) sides(a, b impl.Cell) ([2]int64, bool) {
	var one, two impl.Cell
	x, y := min(a.X, b.X), min(a.Y, b.Y)
	switch {
	case a.Y == b.Y && (a.X == b.X+1 || b.X == a.X+1):
		one, two = cell(x, y-1), cell(x, y)
	case a.X == b.X && (a.Y == b.Y+1 || b.Y == a.Y+1):
		one, two = cell(x-1, y), cell(x, y)
	default:
		return [2]int64{}, false
	}
	i, isOne := by[one]
	k, isTwo := by[two]
	if !isOne || !isTwo || i < 0 || k < 0 || i == k {
		return [2]int64{}, false
	}
	return [2]int64{min(i, k), max(i, k)}, true
}

// isSeam reports whether the edge between two points is a joint.
func (by owners) isSeam(a, b impl.Cell) bool {
	_, is := by.sides(a, b)
	return is
}

// stepOn returns the point to which an edge of a way leads.
func stepOn(c impl.Cell, way int64) impl.Cell {
	steps := [4]impl.Cell{cell(0, -1), cell(1, 0), cell(0, 1), cell(-1, 0)}
	return cell(c.X+steps[way].X, c.Y+steps[way].Y)
}

// seamsAt returns the ways of all joints of a point.
func (by owners) seamsAt(c impl.Cell) []int64 {
	var ways []int64
	for way := range int64(4) {
		if by.isSeam(c, stepOn(c, way)) {
			ways = append(ways, way)
		}
	}
	return ways
}

// crackFrom returns the points of a crack behind some years, one year by one.
func (by owners) crackFrom(at impl.Cell, way, years int64) []impl.Cell {
	toLeft, toRight := [4]int64{3, 0, 1, 2}, [4]int64{1, 2, 3, 0}
	points := []impl.Cell{at}
	for ; years > 0; years-- {
		switch ways := by.seamsAt(at); {
		case slices.Contains(ways, way):
		case slices.Contains(ways, toLeft[way]):
			way = toLeft[way]
		case slices.Contains(ways, toRight[way]):
			way = toRight[way]
		default:
			return points
		}
		at = stepOn(at, way)
		if slices.Contains(points, at) {
			return points
		}
		points = append(points, at)
	}
	return points
}

// touchedAlong returns all slabs along the edges of a crack, ascending, and
// whether all of these are joints.
func (by owners) touchedAlong(points []impl.Cell) ([]int64, bool) {
	var list []int64
	for i, b := range points {
		if i == 0 {
			continue
		}
		pair, is := by.sides(points[i-1], b)
		if !is {
			return nil, false
		}
		list = append(list, pair[0], pair[1])
	}
	return distinct(list), true
}

// longestFrom returns what LongestCrack has to.
func longestFrom(q impl.Square, years int64) []any {
	by := ownersOf(q)
	best := all(cell(0, 0), 0, 1, 0)
	for _, at := range cornersOf(q) {
		for way := range int64(4) {
			if n := len(by.crackFrom(at, way, years)); n > best[2].(int) {
				best = all(at, way, n, 0)
			}
		}
	}
	return best
}

// pairsOf returns all pairs of slabs beside each other, ordered.
func pairsOf(q impl.Square) [][2]int64 {
	var pairs [][2]int64
	for i := range q.Slabs {
		for _, k := range besides(q, i) {
			if k > int64(i) {
				pairs = append(pairs, [2]int64{int64(i), k})
			}
		}
	}
	return pairs
}

// apartBy returns by how much the levels of a pair differ.
func apartBy(levels []int64, pair [2]int64) int64 {
	return max(levels[pair[0]], levels[pair[1]]) - min(levels[pair[0]], levels[pair[1]])
}

// tripsOf returns those pairs whose levels differ by more than limit.
func tripsOf(pairs [][2]int64, levels []int64, limit int64) [][2]int64 {
	var trips [][2]int64
	for _, pair := range pairs {
		if apartBy(levels, pair) > limit {
			trips = append(trips, pair)
		}
	}
	return trips
}

// worstOf returns what WorstTrip has to, of some pairs.
func worstOf(pairs [][2]int64, levels []int64) []any {
	for by := int64(200); by >= 0; by-- {
		for _, pair := range pairs {
			if apartBy(levels, pair) == by {
				return all(pair, by, 0)
			}
		}
	}
	return all([2]int64{}, 0, impl.ErrNotFound)
}

// sunkBy returns levels some years later, one year by one.
func sunkBy(levels, rates []int64, years int64) []int64 {
	after := slices.Clone(levels)
	for range years {
		for i, rate := range rates {
			for range rate {
				if after[i] > -100 {
					after[i]--
				}
			}
		}
	}
	return after
}

// isCoveredBy reports whether a list has a slab of each trip.
func isCoveredBy(trips [][2]int64, list []int64) bool {
	for _, trip := range trips {
		if !slices.Contains(list, trip[0]) && !slices.Contains(list, trip[1]) {
			return false
		}
	}
	return true
}

// inTrips returns all slabs that are in a trip, ascending.
func inTrips(trips [][2]int64) []int64 {
	var list []int64
	for _, trip := range trips {
		list = append(list, trip[0], trip[1])
	}
	return distinct(list)
}

// fewestOf tries all sets of some slabs, ascending, and returns the first one of
// those with the fewest slabs that cover all trips.
func fewestOf(trips [][2]int64, slabs []int64) []int64 {
	best := slabs
	for number := range 1 << len(slabs) {
		var list []int64
		for i, slab := range slabs {
			if number>>i&1 == 1 {
				list = append(list, slab)
			}
		}
		isLess := len(list) < len(best) || len(list) == len(best) && slices.Compare(list, best) < 0
		if isLess && isCoveredBy(trips, list) {
			best = list
		}
	}
	return best
}

// greedyOf takes the slab with the most trips that are not covered yet.
func greedyOf(trips [][2]int64) []int64 {
	var list []int64
	for !isCoveredBy(trips, list) {
		var counts [60]int
		for _, trip := range trips {
			if !slices.Contains(list, trip[0]) && !slices.Contains(list, trip[1]) {
				counts[trip[0]]++
				counts[trip[1]]++
			}
		}
		list = append(list, int64(slices.Index(counts[:], slices.Max(counts[:]))))
	}
	return list
}

// boundOf returns how many trips are counted that have no slab in common.
func boundOf(trips [][2]int64) int {
	var counted [][2]int64
	for _, trip := range trips {
		if list := inTrips(counted); !slices.Contains(list, trip[0]) && !slices.Contains(list, trip[1]) {
			counted = append(counted, trip)
		}
	}
	return len(counted)
}

// levelsText returns the text of levels.
func levelsText(levels []int64) string {
	var words []string
	for _, level := range levels {
		words = append(words, strconv.Itoa(int(level)))
	}
	return strings.Join(words, " ")
}

// levelWord matches all texts of one level.
var levelWord = regexp.MustCompile(`\A(0|-?([1-9][0-9]?|100))\z`)

// isLevelsText reports whether a text is that of so many levels.
func isLevelsText(s string, count int) bool {
	if s == "" || count == 0 {
		return s == "" && count == 0
	}
	words := strings.Split(s, " ")
	return len(words) == count && !slices.ContainsFunc(words, func(word string) bool { return !levelWord.MatchString(word) })
}

// someLevels returns levels for so many slabs; of 10 of them about some are not
// level with the others.
func someLevels(d *dice, count, uneven int) []int64 {
	levels := make([]int64, count)
	for i := range levels {
		if d.below(10) < uneven {
			levels[i] = int64(d.below(201) - 100)
		}
	}
	return levels
}

// someRates returns rates for so many slabs, up to a greatest one.
func someRates(d *dice, count, most int) []int64 {
	rates := make([]int64, count)
	for i := range rates {
		rates[i] = int64(d.below(most + 1))
	}
	return rates
}

// crackSquares returns valid squares with cracks of many kinds.
func crackSquares() []impl.Square {
	list := append(someSquares(), smallSquares()...)
	bricks := fromCells(12, 12, func(x, y int) int { return y*100 + (x+y%2)/2 })
	bricks.Slabs = bricks.Slabs[:60]
	wide := fromCells(12, 12, func(x, y int) int { return y/2*100 + (x+y/2%2)/2 })
	turned := fromCells(12, 12, func(x, y int) int { return owner(wide, y, x) })
	return append(list, bricks, wide, turned, windmill(), mirrored(windmill()), spiral(), mirrored(spiral()))
}

// windmill returns four slabs around one in the middle. Cracks run around it to
// the left: "abb", "aec", "ddc".
func windmill() impl.Square {
	return square(3, 3, slab(0, 0, 1, 2), slab(1, 0, 2, 1), slab(1, 1, 1, 1), slab(2, 1, 1, 2), slab(0, 2, 2, 1))
}

// spiral returns slabs around each other, between which a crack from 0, 11 runs
// to the east, and on to the left, until it is in the middle.
func spiral() impl.Square {
	q := square(12, 12)
	for k := range int8(6) {
		start := max(0, k-1)
		q.Slabs = append(q.Slabs, slab(start, 11-k, 11-k-start, 1), slab(11-k, k+1, 1, 11-2*k), slab(k+1, k, 11-2*k, 1))
		if k < 5 {
			q.Slabs = append(q.Slabs, slab(k, k, 1, 10-2*k))
		}
	}
	return inOrder(q)
}

// mirrored exchanges west and east.
func mirrored(q impl.Square) impl.Square {
	return fromCells(int(q.Wide), int(q.High), func(x, y int) int { return owner(q, int(q.Wide)-1-x, y) })
}

// rowSquare returns a row of so many slabs of 1 by 1, as long as they go.
func rowSquare(count int) impl.Square {
	return square(12, 1, rowOfSlabs(cell(0, 0), count)...)
}
