package tests

import (
	"regexp"
	"slices"
	"strconv"
	"strings"

	"loop.example/g01383/impl"
)

// This file has a second, slow program for chapter 5. It tries all ways of small
// squares, all orders of a few slabs, all stacks and all loads. It calls nothing
// of package impl.

// owners has for each cell of a square the index of its slab, or -1.
type owners map[impl.Cell]int64

// ownersOf returns the owners of all cells of a square.
func ownersOf(q impl.Square) owners {
	by := owners{}
	for y := range q.High {
		for x := range q.Wide {
			by[cell(x, y)] = int64(owner(q, int(x), int(y)))
		}
	}
	return by
}

// around returns the cells of a square beside one, in their order.
func (by owners) around(c impl.Cell) []impl.Cell {
	var list []impl.Cell
	for _, d := range []impl.Cell{cell(c.X, c.Y-1), cell(c.X-1, c.Y), cell(c.X+1, c.Y), cell(c.X, c.Y+1)} {
		if _, is := by[d]; is {
			list = append(list, d)
		}
	}
	return list
}

// isFreeOf reports whether a cell is open, or covered by one of some slabs.
func (by owners) isFreeOf(c impl.Cell, list []int64) bool {
	return by[c] < 0 || slices.Contains(list, by[c])
}

// liftedOn returns what a way lifts, in the order in which it comes to it.
func (by owners) liftedOn(way []impl.Cell) []int64 {
	var list []int64
	for _, c := range way {
		if !by.isFreeOf(c, list) {
			list = append(list, by[c])
		}
	}
	return list
}

// allWays returns all ways from a cell to another one that have no cell twice.
func (by owners) allWays(from, to impl.Cell) [][]impl.Cell {
	var ways [][]impl.Cell
	var walk func(way []impl.Cell)
	walk = func(way []impl.Cell) {
		last := way[len(way)-1]
		if last == to {
			ways = append(ways, slices.Clone(way))
			return
		}
		for _, c := range by.around(last) {
			if !slices.Contains(way, c) {
				walk(append(way, c))
			}
		}
	}
	walk([]impl.Cell{from})
	return ways
}

// leastLifted returns, of some ways, what is lifted by those that lift the
// fewest slabs, as the list that comes first.
func (by owners) leastLifted(ways [][]impl.Cell) []int64 {
	var best []int64
	for i, way := range ways {
		list := by.liftedOn(way)
		if i == 0 || len(list) < len(best) || len(list) == len(best) && slices.Compare(list, best) < 0 {
			best = list
		}
	}
	return best
}

// compareCells orders lists of cells, by Y and then by X.
func compareCells(a, b []impl.Cell) int {
	return slices.CompareFunc(a, b, func(c, d impl.Cell) int {
		return (int(c.Y)-int(d.Y))*1000 + int(c.X) - int(d.X)
	})
}

// leastWay returns, of some ways, the first one of those with the fewest cells
// that lift no other slabs than some.
func (by owners) leastWay(ways [][]impl.Cell, list []int64) []impl.Cell {
	var best []impl.Cell
	for _, way := range ways {
		if slices.ContainsFunc(way, func(c impl.Cell) bool { return !by.isFreeOf(c, list) }) {
			continue
		}
		if best == nil || len(way) < len(best) || len(way) == len(best) && compareCells(way, best) < 0 {
			best = way
		}
	}
	return best
}

// reached returns how many steps it takes to each cell from one, over cells that
// are open, or covered by some slabs.
func (by owners) reached(from impl.Cell, list []int64) map[impl.Cell]int {
	steps := map[impl.Cell]int{}
	if by.isFreeOf(from, list) {
		steps[from] = 0
	}
	for n, count := 1, 0; len(steps) > count; n++ {
		count = len(steps)
		for c := range by {
			if _, known := steps[c]; known || !by.isFreeOf(c, list) {
				continue
			}
			if slices.ContainsFunc(by.around(c), func(d impl.Cell) bool { s, known := steps[d]; return known && s == n-1 }) {
				steps[c] = n
			}
		}
	}
	return steps
}

// touched returns all slabs to which ways from a cell come first when some slabs
// have been lifted, ascending.
func (by owners) touched(from impl.Cell, list []int64) []int64 {
	if !by.isFreeOf(from, list) {
		return []int64{by[from]}
	}
	var found []int64
	for c := range by.reached(from, list) {
		for _, d := range by.around(c) {
			if !by.isFreeOf(d, list) && !slices.Contains(found, by[d]) {
				found = append(found, by[d])
			}
		}
	}
	slices.Sort(found)
	return found
}

// needed returns how many slabs more are lifted at least by a way: each time all
// that can be next are lifted, until the way is free.
func (by owners) needed(from, to impl.Cell, list []int64) int {
	for n := 0; ; n++ {
		if _, free := by.reached(from, list)[to]; free {
			return n
		}
		list = slices.Concat(list, by.touched(from, list))
	}
}

// firstLifted returns the list that comes first of what is lifted by the ways
// that lift the fewest slabs, number by number.
func (by owners) firstLifted(from, to impl.Cell) []int64 {
	var list []int64
	for left := by.needed(from, to, nil); left > 0; left-- {
		for _, i := range by.touched(from, list) {
			if with := slices.Concat(list, []int64{i}); by.needed(from, to, with) == left-1 {
				list = with
				break
			}
		}
	}
	return list
}

// firstWay returns the first of the shortest ways that lift no other slabs than
// some, step by step.
func (by owners) firstWay(from, to impl.Cell, list []int64) []impl.Cell {
	steps := by.reached(to, list)
	way := []impl.Cell{from}
	for c := from; c != to; {
		for _, d := range by.around(c) {
			if s, known := steps[d]; known && s == steps[c]-1 {
				c = d
				break
			}
		}
		way = append(way, c)
	}
	return way
}

// isLaying reports whether a slab can be laid.
func isLaying(q impl.Square, s impl.Slab) bool {
	if !isFree(q, s) {
		return false
	}
	north, west := true, true
	for x := s.X; x < s.X+s.Wide; x++ {
		north = north && (s.Y == 0 || owner(q, int(x), int(s.Y)-1) >= 0)
	}
	for y := s.Y; y < s.Y+s.High; y++ {
		west = west && (s.X == 0 || owner(q, int(s.X)-1, int(y)) >= 0)
	}
	return north || west
}

// withSlab returns a square with one slab more.
func withSlab(q impl.Square, s impl.Slab) impl.Square {
	return inOrder(square(q.Wide, q.High, append(slices.Clone(q.Slabs), s)...))
}

// layOrders returns all orders in which the slabs of a list can be laid, as they
// come.
func layOrders(q impl.Square, list []impl.Slab, order ...int64) [][]int64 {
	if len(order) == len(list) {
		return [][]int64{slices.Clone(order)}
	}
	var orders [][]int64
	for i, s := range list {
		if !slices.Contains(order, int64(i)) && isLaying(q, s) {
			orders = append(orders, layOrders(withSlab(q, s), list, append(slices.Clone(order), int64(i))...)...)
		}
	}
	return orders
}

// allLists returns all lists with so many numbers of 0 to below - 1, as they
// come.
func allLists(count, below int) [][]int64 {
	lists := [][]int64{nil}
	for range count {
		var longer [][]int64
		for _, list := range lists {
			for n := range int64(below) {
				longer = append(longer, append(slices.Clone(list), n))
			}
		}
		lists = longer
	}
	return lists
}

// permutations returns all orders of the numbers from 0 to count - 1.
func permutations(count int) [][]int64 {
	var orders [][]int64
	for _, list := range allLists(count, count) {
		if len(distinct(list)) == count {
			orders = append(orders, list)
		}
	}
	return orders
}

// distinct returns all different numbers of a list.
func distinct(list []int64) []int64 {
	list = slices.Clone(list)
	slices.Sort(list)
	return slices.Compact(list)
}

// isStacked reports whether slabs can be taken from stacks in their order, by
// taking them.
func isStacked(lift, relay, stacks []int64) bool {
	if len(stacks) != len(lift) {
		return false
	}
	piles := map[int64][]int64{}
	for i, at := range stacks {
		if at < 0 || at > 9 {
			return false
		}
		piles[at] = append(piles[at], lift[i])
	}
	for _, slab := range relay {
		at := stacks[slices.Index(lift, slab)]
		last := len(piles[at]) - 1
		if piles[at][last] != slab {
			return false
		}
		piles[at] = piles[at][:last]
	}
	return true
}

// stacked returns the stacks upon which slabs are put, each one upon the first
// stack all of whose slabs are laid behind it.
func stacked(lift, relay []int64) ([]int64, int64) {
	stacks := []int64{}
	for _, slab := range lift {
		at := int64(0)
		for isBlocked(lift, relay, stacks, slab, at) {
			at++
		}
		stacks = append(stacks, at)
	}
	return stacks, int64(len(distinct(stacks)))
}

// isBlocked reports whether a stack has a slab that is laid ahead of another one.
func isBlocked(lift, relay, stacks []int64, slab, at int64) bool {
	for i, other := range stacks {
		if other == at && slices.Index(relay, lift[i]) < slices.Index(relay, slab) {
			return true
		}
	}
	return false
}

// longestRun returns the most slabs that are laid in the order in which they are
// lifted; no two of them can be on one stack.
func longestRun(lift, relay []int64) int64 {
	runs := map[int64]int64{}
	var longest int64
	for i, slab := range lift {
		runs[slab] = 1
		for _, before := range lift[:i] {
			if slices.Index(relay, before) < slices.Index(relay, slab) {
				runs[slab] = max(runs[slab], runs[before]+1)
			}
		}
		longest = max(longest, runs[slab])
	}
	return longest
}

// weightOf returns the weight of a slab whose sides are right.
func weightOf(s impl.Slab) int64 { return 4 * int64(s.Wide) * int64(s.High) }

// isLoaded reports whether no load is heavier than what barrows hold.
func isLoaded(list []impl.Slab, loads []int64, holds int64) bool {
	sums := map[int64]int64{}
	for i, load := range loads {
		sums[load] += weightOf(list[i])
		if sums[load] > holds {
			return false
		}
	}
	return true
}

// allLoads returns all lists of loads that are told by their first slabs, as
// they come.
func allLoads(count int) [][]int64 {
	lists := [][]int64{nil}
	for range count {
		var longer [][]int64
		for _, list := range lists {
			for n := range int64(len(distinct(list)) + 1) {
				longer = append(longer, append(slices.Clone(list), n))
			}
		}
		lists = longer
	}
	return lists
}

// fewestLoads returns the first one of some lists of loads with the fewest of
// them.
func fewestLoads(list []impl.Slab, lists [][]int64, holds int64) ([]int64, int) {
	var best []int64
	fewest := len(list) + 1
	for _, loads := range lists {
		if n := len(distinct(loads)); n < fewest && isLoaded(list, loads, holds) {
			best, fewest = loads, n
		}
	}
	return best, fewest
}

// nextLoads loads slabs in their order.
func nextLoads(list []impl.Slab, holds int64) ([]int64, int) {
	var loads []int64
	load := int64(0)
	for range list {
		if !isLoaded(list, append(slices.Clone(loads), load), holds) {
			load++
		}
		loads = append(loads, load)
	}
	return loads, len(distinct(loads))
}

// twoBarrows returns the first one of some lists of 0 and 1, with which the
// heavier one of both sums is least, and this.
func twoBarrows(list []impl.Slab, lists [][]int64) ([]int64, int64) {
	var best []int64
	least := int64(1 << 30)
	for _, barrows := range lists {
		var sums [2]int64
		for i, at := range barrows {
			sums[at] += weightOf(list[i])
		}
		if heavier := max(sums[0], sums[1]); heavier < least {
			best, least = barrows, heavier
		}
	}
	return best, least
}

// orderText returns the text of an order.
func orderText(order []int64) string {
	var words []string
	for _, n := range order {
		words = append(words, strconv.Itoa(int(n)))
	}
	return strings.Join(words, " ")
}

// orderTexts matches all texts of orders.
var orderTexts = regexp.MustCompile(`\A((0|[1-9][0-9]{0,2})( (0|[1-9][0-9]{0,2})){0,99})?\z`)

// isOrderText reports whether a text is that of an order.
func isOrderText(s string) bool { return orderTexts.MatchString(s) }

// smallSquare returns a square of at most 16 cells, most of them with a slab.
func smallSquare(d *dice, wide, high int) impl.Square {
	q := square(int8(wide), int8(high))
	side := 1 + d.below(3)
	for range d.below(40) {
		s := slab(int8(d.below(wide)), int8(d.below(high)), int8(1+d.below(side)), int8(1+d.below(side)))
		if isFree(q, s) {
			q.Slabs = append(q.Slabs, s)
		}
	}
	return inOrder(q)
}

// smallSquares returns valid squares of at most 16 cells.
func smallSquares() []impl.Square {
	var list []impl.Square
	d := dice(61)
	for range 12 {
		for _, sides := range [][2]int{{1, 1}, {4, 1}, {1, 4}, {2, 2}, {3, 2}, {2, 4}, {3, 3}, {4, 3}, {3, 4}, {4, 4}, {4, 4}} {
			list = append(list, smallSquare(&d, sides[0], sides[1]))
		}
	}
	for _, side := range []int8{2, 3, 4} {
		full := square(side, side)
		for i := range side * side {
			full.Slabs = append(full.Slabs, slab(i%side, i/side, 1, 1))
		}
		list = append(list, full)
	}
	return list
}

// someLift returns some different numbers, and another order of them.
func someLift(d *dice, count int) ([]int64, []int64) {
	var lift []int64
	for len(lift) < count {
		if n := int64(d.below(40) - 20); !slices.Contains(lift, n) {
			lift = append(lift, n)
		}
	}
	relay := slices.Clone(lift)
	for i := range relay {
		k := d.below(i + 1)
		relay[i], relay[k] = relay[k], relay[i]
	}
	return lift, relay
}

// someLoads returns some slabs with sides up to one.
func someLoads(d *dice, count, side int) []impl.Slab {
	var list []impl.Slab
	for range count {
		list = append(list, slab(int8(d.below(256)-128), int8(d.below(256)-128), int8(1+d.below(side)), int8(1+d.below(side))))
	}
	return list
}

// rowOfSlabs returns so many slabs of 1 by 1, the first one at a cell, each one
// to the east of the one before.
func rowOfSlabs(from impl.Cell, count int) []impl.Slab {
	var list []impl.Slab
	for i := range int8(count) {
		list = append(list, slab(from.X+i, from.Y, 1, 1))
	}
	return list
}
