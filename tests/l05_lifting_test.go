package tests

import (
	"fmt"
	"math"
	"slices"
	"strings"
	"testing"

	"loop.example/g01383/impl"
)

// liftCall is a function of chapter 5, for some arguments, and all results but
// the code that come with an error.
type liftCall struct {
	name  string
	call  func() []any
	zeros []any
}

// checkCode checks that all of some calls give a code, and nothing else.
func checkCode(t *testing.T, name string, code int, calls ...liftCall) {
	t.Helper()
	for _, c := range calls {
		check(t, c.name+": "+name, c.call(), coded(c.zeros, code))
	}
}

func liftedCall(q impl.Square, way []impl.Cell) liftCall {
	return liftCall{"LiftedBy", func() []any { return all(impl.LiftedBy(q, way)) }, all("[]")}
}

// wayCalls returns the functions of the ways from a cell to another one.
func wayCalls(q impl.Square, from, to impl.Cell) []liftCall {
	return []liftCall{
		{"FewestLifted", func() []any { return all(impl.FewestLifted(q, from, to)) }, all("[]")},
		{"WayUnder", func() []any { return all(impl.WayUnder(q, from, to)) }, all("[]")},
	}
}

func liftAllCall(q impl.Square, list []int64) liftCall {
	return liftCall{"LiftAll", func() []any { return all(impl.LiftAll(q, list)) }, all(none, "[]")}
}

func canLayCall(q impl.Square, s impl.Slab) liftCall {
	return liftCall{"CanLay", func() []any { return all(impl.CanLay(q, s)) }, all(false)}
}

func layAllCall(q impl.Square, list []impl.Slab, order []int64) liftCall {
	return liftCall{"LayAll", func() []any { return all(impl.LayAll(q, list, order)) }, all(none)}
}

// orderCalls returns the functions of all orders of a list.
func orderCalls(q impl.Square, list []impl.Slab) []liftCall {
	return []liftCall{
		{"LayOrder", func() []any { return all(impl.LayOrder(q, list)) }, all("[]")},
		{"CountOrders", func() []any { return all(impl.CountOrders(q, list)) }, all(0)},
	}
}

// relayCalls returns the functions of stacks that ask for relay.
func relayCalls(lift, relay, stacks []int64) []liftCall {
	return []liftCall{
		{"FewestStacks", func() []any { return all(impl.FewestStacks(lift, relay)) }, all("[]", 0)},
		{"CheckStacks", func() []any { return all(impl.CheckStacks(lift, relay, stacks)) }, all(false)},
	}
}

func takeCall(lift, stacks []int64) liftCall {
	return liftCall{"TakeOrder", func() []any { return all(impl.TakeOrder(lift, stacks)) }, all("[]")}
}

// loadCalls returns the functions of barrows that ask what they hold.
func loadCalls(list []impl.Slab, holds int64) []liftCall {
	return []liftCall{
		{"BarrowLoads", func() []any { return all(impl.BarrowLoads(list, holds)) }, all("[]", 0)},
		{"FewestLoads", func() []any { return all(impl.FewestLoads(list, holds)) }, all("[]", 0)},
	}
}

func twoCall(list []impl.Slab) liftCall {
	return liftCall{"TwoBarrows", func() []any { return all(impl.TwoBarrows(list)) }, all("[]", 0)}
}

// numbersFar returns numbers that are no index of less than 100 elements.
func numbersFar() []int64 {
	return []int64{-1, 100, 256, 1 << 32, math.MinInt64, math.MaxInt64}
}

func TestLimitsOfLifting(t *testing.T) {
	check(t, "limits", all(impl.MaxWay, impl.MaxLifted, impl.Heavy, impl.MaxHolds), "[100 10 4 600]")
}

// TestLiftingOfNotValidSquares calls each function with squares that are not
// valid, and with other arguments that are wrong as well.
func TestLiftingOfNotValidSquares(t *testing.T) {
	one, far := slab(0, 0, 1, 1), slab(-1, 99, 0, 13)
	for name, q := range notValid() {
		checkCode(t, name, 1, liftedCall(q, nil), liftedCall(q, []impl.Cell{cell(0, 0)}), liftedCall(q, []impl.Cell{cell(0, 0), cell(0, 0)}), liftedCall(q, make([]impl.Cell, 101)), liftedCall(q, []impl.Cell{cell(-1, 0)}))
		checkCode(t, name, 1, wayCalls(q, cell(0, 0), cell(0, 0))...)
		checkCode(t, name, 1, wayCalls(q, cell(-1, 0), cell(0, 0))...)
		checkCode(t, name, 1, wayCalls(q, cell(0, 0), cell(0, 127))...)
		checkCode(t, name, 1, liftAllCall(q, nil), liftAllCall(q, []int64{0}), liftAllCall(q, []int64{0, 0}), liftAllCall(q, []int64{-1}))
		checkCode(t, name, 1, canLayCall(q, one), canLayCall(q, far))
		checkCode(t, name, 1, layAllCall(q, nil, nil), layAllCall(q, []impl.Slab{one}, []int64{0}), layAllCall(q, []impl.Slab{far}, []int64{1}), layAllCall(q, make([]impl.Slab, 11), nil))
		checkCode(t, name, 1, orderCalls(q, nil)...)
		checkCode(t, name, 1, orderCalls(q, []impl.Slab{far})...)
		checkCode(t, name, 1, orderCalls(q, make([]impl.Slab, 61))...)
	}
}

// someWalk returns a way with steps at random, which can come to cells again.
func someWalk(d *dice, q impl.Square, cells int) []impl.Cell {
	by := ownersOf(q)
	way := []impl.Cell{cell(int8(d.below(int(q.Wide))), int8(d.below(int(q.High))))}
	for len(way) < cells {
		next := by.around(way[len(way)-1])
		if len(next) == 0 {
			break
		}
		way = append(way, next[d.below(len(next))])
	}
	return way
}

// Promise 11: a way lifts what it comes to, in this order, and never less than
// the fewest slabs between its ends.
func TestWaysAtRandom(t *testing.T) {
	d := dice(62)
	several := 0
	for i, q := range someSquares() {
		by := ownersOf(q)
		for _, cells := range []int{1, 2, 5, 20, 99, 100} {
			way := someWalk(&d, q, cells)
			name := fmt.Sprint(" of ", i, ", ", way)
			lifted := by.liftedOn(way)
			check(t, "LiftedBy"+name, all(impl.LiftedBy(q, way)), all(lifted, 0))
			fewest, code := impl.FewestLifted(q, way[0], way[len(way)-1])
			if code != impl.OK || len(fewest) > len(lifted) || len(fewest) == len(lifted) && slices.Compare(fewest, lifted) > 0 {
				t.Errorf("FewestLifted%s lifts %v, but this way %v", name, fewest, lifted)
			}
			if len(lifted) > 4 {
				several++
			}
		}
	}
	if several < 100 {
		t.Errorf("only %d ways lifted several slabs", several)
	}
}

func TestLiftedByOfSomeKinds(t *testing.T) {
	q := read(t, "aab", "ccb", "cc.")
	for name, c := range map[string]struct {
		way  []impl.Cell
		want []any
	}{
		"no cells":               {nil, all("[]", 0)},
		"one open cell":          {[]impl.Cell{cell(2, 2)}, all("[]", 0)},
		"one cell":               {[]impl.Cell{cell(1, 1)}, all("[2]", 0)},
		"as the way comes":       {[]impl.Cell{cell(2, 2), cell(1, 2), cell(1, 1), cell(2, 1), cell(2, 0), cell(1, 0)}, all("[2 1 0]", 0)},
		"a slab twice":           {[]impl.Cell{cell(0, 0), cell(0, 1), cell(0, 0), cell(1, 0), cell(1, 1)}, all("[0 2]", 0)},
		"one cell again":         {[]impl.Cell{cell(0, 0), cell(0, 0)}, all("[]", 4)},
		"across":                 {[]impl.Cell{cell(0, 0), cell(1, 1)}, all("[]", 4)},
		"two steps on":           {[]impl.Cell{cell(0, 0), cell(2, 0)}, all("[]", 4)},
		"two steps to the south": {[]impl.Cell{cell(0, 0), cell(0, 2)}, all("[]", 4)},
		"the next row":           {[]impl.Cell{cell(2, 0), cell(0, 1)}, all("[]", 4)},
		"the last step is wrong": {[]impl.Cell{cell(0, 0), cell(1, 0), cell(2, 1)}, all("[]", 4)},
		"range before state":     {[]impl.Cell{cell(0, 0), cell(2, 2), cell(3, 2)}, all("[]", 2)},
		"out and in again":       {[]impl.Cell{cell(2, 1), cell(3, 1), cell(2, 1)}, all("[]", 2)},
		"far off":                {[]impl.Cell{cell(-128, 127)}, all("[]", 2)},
	} {
		check(t, "LiftedBy: "+name, all(impl.LiftedBy(q, c.way)), c.want)
	}
	for _, c := range notPoints(impl.Ground{Wide: 3, High: 3}) {
		checkCode(t, fmt.Sprint("no cell ", c), 2, liftedCall(q, []impl.Cell{c}), liftedCall(q, []impl.Cell{cell(0, 0), c}))
	}
	back := slices.Repeat([]impl.Cell{cell(0, 0), cell(0, 1)}, 50)
	check(t, "100 cells", all(impl.LiftedBy(q, back)), "[[0 2] 0]")
	checkCode(t, "101 cells", 3, liftedCall(q, append(back, cell(0, 0))))
	checkCode(t, "limit before range", 3, liftedCall(q, append(back, cell(3, 0))))
	checkCode(t, "limit before state", 3, liftedCall(q, append(back, cell(2, 2))))
	check(t, "100 cells, one of them none", all(impl.LiftedBy(q, append(slices.Clone(back[:99]), cell(-1, 0)))), "[[] 2]")
}

// Promise 11: no way lifts fewer slabs than told, of all ways of small squares,
// nor the same number with a list that comes before.
func TestNoWayLiftsFewerOfAllWays(t *testing.T) {
	ties := 0
	for i, q := range smallSquares() {
		by := ownersOf(q)
		d := dice(i)
		for from := range by {
			for to := range by {
				if len(by) > 9 && d.below(12) > 0 {
					continue
				}
				name := fmt.Sprint(" of ", i, " from ", from, " to ", to)
				ways := by.allWays(from, to)
				list := by.leastLifted(ways)
				check(t, "FewestLifted"+name, all(impl.FewestLifted(q, from, to)), all(list, 0))
				check(t, "WayUnder"+name, all(impl.WayUnder(q, from, to)), all(by.leastWay(ways, list), 0))
				check(t, "the second program"+name, all(by.firstLifted(from, to), by.firstWay(from, to, list)), all(list, by.leastWay(ways, list)))
				if len(list) > 2 {
					ties++
				}
			}
		}
	}
	if ties < 300 {
		t.Errorf("only %d ways lifted several slabs", ties)
	}
}

// Promise 11: in great squares the lists and ways are those of the second
// program, and the way lifts just what is told.
func TestNoWayLiftsFewerInGreatSquares(t *testing.T) {
	d := dice(63)
	several := 0
	for i, q := range append(someSquares(), mazes(t)...) {
		if i%2 == 1 {
			continue
		}
		by := ownersOf(q)
		last := cell(q.Wide-1, q.High-1)
		some := cell(int8(d.below(int(q.Wide))), int8(d.below(int(q.High))))
		for _, ends := range [][2]impl.Cell{{cell(0, 0), last}, {last, cell(0, 0)}, {cell(0, last.Y), cell(last.X, 0)}, {some, cell(last.X, 0)}, {some, some}} {
			name := fmt.Sprint(" of ", i, " from ", ends[0], " to ", ends[1])
			list := by.firstLifted(ends[0], ends[1])
			check(t, "FewestLifted"+name, all(impl.FewestLifted(q, ends[0], ends[1])), all(list, 0))
			way, code := impl.WayUnder(q, ends[0], ends[1])
			check(t, "WayUnder"+name, all(way, code), all(by.firstWay(ends[0], ends[1], list), 0))
			check(t, "LiftedBy of the way"+name, all(impl.LiftedBy(q, way)), all(list, 0))
			if len(list) > 4 {
				several++
			}
		}
	}
	if several < 50 {
		t.Errorf("only %d ways lifted several slabs", several)
	}
}

// mazes returns squares with long ways over open cells.
func mazes(t *testing.T) []impl.Square {
	rows := read(t, "............", "aaaaaaaaaaa.", "............", ".bbbbbbbbbbb", "............", "ccccccccccc.", "............", ".ddddddddddd", "............", "eeeeeeeeeee.", "............", ".fffffffffff")
	columns := fromCells(12, 12, func(x, y int) int { return owner(rows, y, x) })
	pieces := fromCells(12, 12, func(x, y int) int {
		if owner(rows, x, y) < 0 {
			return -1
		}
		return y*12 + x/2
	})
	return []impl.Square{rows, columns, pieces}
}

func TestLongWaysOverOpenCells(t *testing.T) {
	rows := mazes(t)[0]
	check(t, "a long way lifts nothing", all(impl.FewestLifted(rows, cell(0, 0), cell(0, 11))), "[[] 0]")
	long, code := impl.WayUnder(rows, cell(0, 0), cell(0, 11))
	check(t, "it is long", all(len(long), code), "[78 0]")
	check(t, "it can be gone", all(impl.LiftedBy(rows, long)), "[[] 0]")
}

// way returns the cells with some numbers, X and Y of each.
func way(numbers ...int8) []impl.Cell {
	var list []impl.Cell
	for pair := range slices.Chunk(numbers, 2) {
		list = append(list, cell(pair[0], pair[1]))
	}
	return list
}

// TestWaysOfSomeKinds has ways of which several lift the fewest slabs, and
// several of these have the fewest cells.
func TestWaysOfSomeKinds(t *testing.T) {
	full := square(4, 4)
	for i := range int8(16) {
		full.Slabs = append(full.Slabs, slab(i%4, i/4, 1, 1))
	}
	example := read(t, "aab", "ccb", "cc.")
	for name, c := range map[string]struct {
		q    impl.Square
		list []int64
		way  []impl.Cell
	}{
		"one open cell":               {square(1, 1), nil, way(0, 0)},
		"one slab":                    {square(1, 1, slab(0, 0, 1, 1)), []int64{0}, way(0, 0)},
		"both ends on one slab":       {read(t, "aaa", "b.c"), []int64{0}, way(2, 0, 1, 0, 0, 0)},
		"the same end twice":          {read(t, "aaa", "b.c"), []int64{0}, way(1, 0)},
		"the same open end twice":     {read(t, "aaa", "b.c"), nil, way(1, 1)},
		"open cells, to the south":    {square(3, 3), nil, way(0, 0, 1, 0, 2, 0, 2, 1, 2, 2)},
		"open cells, to the north":    {square(3, 3), nil, way(2, 2, 2, 1, 2, 0, 1, 0, 0, 0)},
		"open cells, to the west":     {square(3, 2), nil, way(2, 0, 1, 0, 0, 0, 0, 1)},
		"cells 9 to 11":               {square(12, 2), nil, way(11, 1, 11, 0, 10, 0, 9, 0, 8, 0)},
		"the first list, to the west": {full, []int64{15, 11, 7, 3, 2, 1, 0}, way(3, 3, 3, 2, 3, 1, 3, 0, 2, 0, 1, 0, 0, 0)},
		"the first list, to the east": {full, []int64{12, 8, 4, 0, 1, 2, 3}, way(0, 3, 0, 2, 0, 1, 0, 0, 1, 0, 2, 0, 3, 0)},
		"as the way comes to them":    {example, []int64{1, 0}, way(2, 2, 2, 1, 2, 0, 1, 0, 0, 0)},
		"the first number decides":    {read(t, ".a.", ".b.", ".c."), []int64{0}, way(0, 2, 0, 1, 0, 0, 1, 0, 2, 0, 2, 1, 2, 2)},
		"the second number decides":   {read(t, "ab.", "ac.", "ad."), []int64{0, 1}, way(0, 2, 0, 1, 0, 0, 1, 0, 2, 0, 2, 1, 2, 2)},
		"the first one, not the least": {read(t, "abccc", "ad.ef", "agggf", "ahhhf", "....."), []int64{2, 5},
			way(2, 1, 2, 0, 3, 0, 4, 0, 4, 1, 4, 2, 4, 3, 4, 4, 3, 4, 2, 4, 1, 4, 0, 4)},
		"fewer slabs, more cells":     {read(t, ".abc.", ".def.", "....."), nil, way(0, 0, 0, 1, 0, 2, 1, 2, 2, 2, 3, 2, 4, 2, 4, 1, 4, 0)},
		"the first list, more cells":  {read(t, "..a", "bba", "..a"), []int64{0}, way(0, 0, 1, 0, 2, 0, 2, 1, 2, 2, 1, 2, 0, 2)},
		"one great slab, not two":     {read(t, "aaaaa", "b.c.d", "...e."), []int64{0}, way(1, 1, 1, 0, 2, 0, 3, 0, 3, 1)},
		"open cells beside the slabs": {read(t, ".aa.", "bccd"), []int64{0}, way(0, 0, 1, 0, 2, 0, 3, 0)},
	} {
		from, to := c.way[0], c.way[len(c.way)-1]
		check(t, "FewestLifted: "+name, all(impl.FewestLifted(c.q, from, to)), all(c.list, 0))
		check(t, "WayUnder: "+name, all(impl.WayUnder(c.q, from, to)), all(c.way, 0))
	}
	for _, c := range notPoints(impl.Ground{Wide: 3, High: 3}) {
		checkCode(t, fmt.Sprint("from ", c), 2, wayCalls(example, c, cell(0, 0))...)
		checkCode(t, fmt.Sprint("to ", c), 2, wayCalls(example, cell(0, 0), c)...)
		checkCode(t, fmt.Sprint("both ", c), 2, wayCalls(example, c, c)...)
	}
}

// someIndices returns some different indices of slabs.
func someIndices(d *dice, count, most int) []int64 {
	var list []int64
	for range d.below(most + 1) {
		if i := int64(d.below(max(count, 1))); count > 0 && !slices.Contains(list, i) {
			list = append(list, i)
		}
	}
	return list
}

// nearIndices returns the indices of some slabs near each other, in any order.
func nearIndices(d *dice, q impl.Square, most int) []int64 {
	var list []int64
	if len(q.Slabs) == 0 {
		return list
	}
	for i := range q.Slabs {
		list = append(list, int64(i))
	}
	middle := q.Slabs[d.below(len(q.Slabs))]
	slices.SortStableFunc(list, func(i, k int64) int { return apart(middle, q.Slabs[i]) - apart(middle, q.Slabs[k]) })
	list = list[:min(most, len(list))]
	for i := range list {
		k := d.below(i + 1)
		list[i], list[k] = list[k], list[i]
	}
	return list
}

// apart returns how far the first cells of two slabs are from each other, as a
// square of it.
func apart(a, b impl.Slab) int {
	x, y := int(a.X)-int(b.X), int(a.Y)-int(b.Y)
	return x*x + y*y
}

func TestLiftAll(t *testing.T) {
	d := dice(64)
	for i, q := range someSquares() {
		for _, most := range []int{0, 1, 5, 200} {
			list := someIndices(&d, len(q.Slabs), most)
			left := square(q.Wide, q.High)
			var slabs []impl.Slab
			for _, index := range list {
				slabs = append(slabs, q.Slabs[index])
			}
			for _, s := range q.Slabs {
				if !slices.Contains(slabs, s) {
					left.Slabs = append(left.Slabs, s)
				}
			}
			check(t, fmt.Sprint("LiftAll of ", i, ", ", list), all(impl.LiftAll(q, list)), all(left, slabs, 0))
		}
	}
	for i, q := range someSquares() {
		count := int64(len(q.Slabs))
		for _, index := range append(numbersFar(), count, count+256) {
			checkCode(t, fmt.Sprint("no slab ", index, " of ", i), 2, liftAllCall(q, []int64{index}))
			if count > 0 {
				checkCode(t, fmt.Sprint("no slab ", index, " of ", i), 2, liftAllCall(q, []int64{0, count - 1, index}), liftAllCall(q, []int64{0, 0, index}))
				checkCode(t, fmt.Sprint("one slab twice of ", i), 4, liftAllCall(q, []int64{count - 1, count - 1}), liftAllCall(q, make([]int64, 100)))
			}
		}
	}
	q := read(t, "aab", "ccb", "cc.")
	check(t, "in the order of the list", all(impl.LiftAll(q, []int64{2, 0})), all(square(3, 3, slab(2, 0, 1, 2)), []impl.Slab{slab(0, 1, 2, 2), slab(0, 0, 2, 1)}, 0))
	check(t, "all of them", all(impl.LiftAll(q, []int64{1, 2, 0})), all(square(3, 3), []impl.Slab{slab(2, 0, 1, 2), slab(0, 1, 2, 2), slab(0, 0, 2, 1)}, 0))
	checkCode(t, "the last one comes twice", 4, liftAllCall(q, []int64{1, 2, 0, 2}))
	var most []int64
	for i := range int64(60) {
		most = append(most, 59-i)
	}
	left, slabs, code := impl.LiftAll(gridSquare(60), most)
	slices.Reverse(slabs)
	check(t, "60 slabs", all(left, slabs, code), all(square(12, 12), gridSquare(60).Slabs, 0))
}

func TestCanLay(t *testing.T) {
	can, not := 0, 0
	for i, q := range append(someSquares(), smallSquares()...) {
		list := slabsAround(q)
		for c := range ownersOf(q) {
			if i%2 == 0 {
				list = append(list, slab(c.X, c.Y, 1, 1), slab(c.X, c.Y, 2, 1), slab(c.X, c.Y, 1, 2), slab(c.X, c.Y, 3, 2))
			}
		}
		for _, s := range list {
			want := isLaying(q, s)
			check(t, fmt.Sprint("CanLay of ", i, ", ", s), all(impl.CanLay(q, s)), all(want, 0))
			if want {
				can++
			} else if isFree(q, s) {
				not++
			}
		}
	}
	if can < 1000 || not < 1000 {
		t.Errorf("%d slabs could be laid, and %d could be put alone", can, not)
	}
	q := read(t, ".aab.", "c....", "c....", ".....")
	for name, c := range map[string]struct {
		s    impl.Slab
		want bool
	}{
		"at the north edge":             {slab(4, 0, 1, 2), true},
		"at the west edge":              {slab(0, 3, 5, 1), true},
		"in the corner":                 {slab(0, 0, 1, 1), true},
		"all along the north":           {slab(1, 1, 3, 3), true},
		"below two slabs":               {slab(2, 1, 2, 2), true},
		"open to the north, not west":   {slab(1, 1, 4, 1), true},
		"partly open to the north":      {slab(2, 1, 3, 1), false},
		"all along the west":            {slab(1, 2, 4, 1), true},
		"west, but not as high":         {slab(1, 2, 4, 2), false},
		"open around":                   {slab(2, 2, 2, 1), false},
		"the south and east edges":      {slab(4, 3, 1, 1), false},
		"across from slabs alone":       {slab(1, 3, 1, 1), false},
		"upon a slab":                   {slab(0, 1, 1, 1), false},
		"partly upon a slab":            {slab(0, 2, 2, 1), false},
		"no sides":                      {slab(1, 1, 0, 0), false},
		"wide below 0":                  {slab(4, 0, -1, 1), false},
		"beyond the north":              {slab(0, -1, 1, 1), false},
		"beyond the west":               {slab(-1, 0, 1, 1), false},
		"beyond the east":               {slab(4, 0, 2, 1), false},
		"beyond the south":              {slab(0, 3, 1, 2), false},
		"a sum of no int8":              {slab(1, 1, 127, 127), false},
		"far off":                       {slab(-128, -128, -128, -128), false},
		"all along the north, not west": {slab(1, 1, 1, 3), true},
	} {
		check(t, "CanLay: "+name, all(impl.CanLay(q, c.s)), all(c.want, 0))
	}
	check(t, "no limit of slabs", all(impl.CanLay(gridSquare(60), slab(0, 5, 12, 7))), "[true 0]")
}

// noOrders are orders that have not each index of 0 to 2 once.
func noOrders() [][]int64 {
	return [][]int64{nil, {0}, {0, 1}, {0, 1, 1}, {0, 0, 0}, {1, 2, 3}, {-1, 0, 1}, {0, 1, 2, 2}, {0, 1, 2, 3}, {0, 1, 258}, {0, 1, 1<<32 + 2}, make([]int64, 1000)}
}

func TestLayAll(t *testing.T) {
	d := dice(65)
	laid, not := 0, 0
	for i, q := range append(someSquares(), smallSquares()...) {
		for k := range 6 {
			lifted := someIndices(&d, len(q.Slabs), 10)
			if k > 2 {
				lifted = nearIndices(&d, q, k)
			}
			less, list, _ := impl.LiftAll(q, lifted)
			order := permutations(3)[d.below(6)]
			for k := 3; k < len(list); k++ {
				order = slices.Insert(slices.Clone(order), d.below(k+1), int64(k))
			}
			order = slices.DeleteFunc(order, func(k int64) bool { return k >= int64(len(list)) })
			want, code := less, impl.OK
			for _, k := range order {
				if !isLaying(want, list[k]) {
					want, code = none, impl.ErrState
					break
				}
				want = withSlab(want, list[k])
			}
			if code == impl.OK && len(list) > 1 {
				laid++
			} else if code != impl.OK {
				not++
			}
			check(t, fmt.Sprint("LayAll of ", i, ", ", list, ", ", order), all(impl.LayAll(less, list, order)), all(want, code))
		}
	}
	if laid < 100 || not < 100 {
		t.Errorf("%d orders were laid, and %d could not be", laid, not)
	}
	three := rowOfSlabs(cell(0, 0), 3)
	for _, order := range noOrders() {
		checkCode(t, fmt.Sprint("not each index once, ", len(order)), 4, layAllCall(square(3, 3), three, order))
	}
	checkCode(t, "an index without slabs", 4, layAllCall(square(3, 3), nil, []int64{0}))
	check(t, "no slabs", all(impl.LayAll(gridSquare(60), nil, nil)), all(gridSquare(60), 0))
	chain := []impl.Slab{slab(1, 1, 1, 1), slab(1, 0, 1, 1), slab(2, 1, 1, 1)}
	check(t, "in their order", all(impl.LayAll(square(3, 2), chain, []int64{1, 0, 2})), all(square(3, 2, chain[1], chain[0], chain[2]), 0))
	checkCode(t, "the first one cannot be laid", 4, layAllCall(square(3, 2), chain, []int64{0, 1, 2}))
	checkCode(t, "the second one cannot be laid", 4, layAllCall(square(3, 2), chain, []int64{1, 2, 0}))
	checkCode(t, "one upon another one", 4, layAllCall(square(3, 2), []impl.Slab{slab(0, 0, 2, 1), slab(1, 0, 1, 1)}, []int64{0, 1}))
	checkCode(t, "beyond the square", 4, layAllCall(square(3, 2), []impl.Slab{slab(0, 0, 1, 1), slab(1, 0, 1, 100)}, []int64{0, 1}))
	checkCode(t, "no slab at all", 4, layAllCall(square(3, 2), make([]impl.Slab, 1), []int64{0}))
}

// TestLimitsOfLaying reaches MaxLifted and MaxSlabs exactly.
func TestLimitsOfLaying(t *testing.T) {
	row := rowOfSlabs(cell(0, 0), 11)
	open := square(12, 2)
	order := []int64{9, 0, 8, 1, 7, 2, 6, 3, 5, 4}
	check(t, "10 slabs", all(impl.LayAll(open, row[:10], order)), all(square(12, 2, row[:10]...), 0))
	checkCode(t, "11 slabs", 3, layAllCall(open, row, append(order, 10)))
	checkCode(t, "limit before state", 3, layAllCall(open, row, nil), layAllCall(open, make([]impl.Slab, 11), order))
	check(t, "11 indices of 10 slabs", all(impl.LayAll(open, row[:10], append(order, 10))), all(none, 4))
	checkCode(t, "11 slabs", 3, orderCalls(open, row)...)
	checkCode(t, "11 slabs that cannot be laid", 3, orderCalls(open, make([]impl.Slab, 11))...)
	check(t, "the first of 10! orders", all(impl.LayOrder(open, row[:10])), "[[0 1 2 3 4 5 6 7 8 9] 0]")
	check(t, "10! orders", all(impl.CountOrders(open, row[:10])), "[3628800 0]")

	last, below := gridSquare(60).Slabs[58:], slab(0, 9, 1, 1)
	check(t, "60 slabs", all(impl.LayAll(gridSquare(58), last, []int64{0, 1})), all(gridSquare(60), 0))
	check(t, "LayOrder of 60 slabs", all(impl.LayOrder(gridSquare(58), last)), "[[0 1] 0]")
	check(t, "CountOrders of 60 slabs", all(impl.CountOrders(gridSquare(58), last)), "[2 0]")
	three := append(slices.Clone(last), below)
	checkCode(t, "61 slabs", 3, layAllCall(gridSquare(58), three, []int64{0, 1, 2}), layAllCall(gridSquare(60), three[:1], []int64{0}))
	checkCode(t, "61 slabs", 3, orderCalls(gridSquare(58), three)...)
	checkCode(t, "61 slabs, one that cannot be laid", 3, orderCalls(gridSquare(60), make([]impl.Slab, 1))...)
	wrong := append(slices.Clone(last), slab(5, 9, 1, 1))
	checkCode(t, "slab by slab: the limit", 3, layAllCall(gridSquare(58), wrong, []int64{0, 1, 2}))
	checkCode(t, "slab by slab: the limit before its state", 3, layAllCall(gridSquare(60), make([]impl.Slab, 1), []int64{0}))
	checkCode(t, "slab by slab: the state of one before", 4, layAllCall(gridSquare(58), wrong, []int64{0, 2, 1}), layAllCall(gridSquare(58), wrong, []int64{2, 1, 0}))
	checkCode(t, "order before the limit of slabs", 4, layAllCall(gridSquare(60), three, []int64{0, 1}))
	check(t, "60 slabs, and none", all(impl.LayOrder(gridSquare(60), nil)), "[[] 0]")
	check(t, "CountOrders of none", all(impl.CountOrders(gridSquare(60), nil)), "[1 0]")
}

// Promise 12: slabs that are lifted can be laid again in the order that is told,
// which comes first of all orders; where none is told there is none.
func TestLiftedSlabsAreLaidAgain(t *testing.T) {
	d := dice(66)
	several, never := 0, 0
	for i, q := range append(someSquares(), smallSquares()...) {
		for k, most := range []int{2, 4, 5, 5, 3, 4, 5, 6} {
			lifted := someIndices(&d, len(q.Slabs), most)
			if k > 3 {
				lifted = nearIndices(&d, q, most)
			}
			less, list, _ := impl.LiftAll(q, lifted)
			name := fmt.Sprint(" of ", i, " without ", lifted)
			orders := layOrders(less, list)
			check(t, "CountOrders"+name, all(impl.CountOrders(less, list)), all(len(orders), 0))
			order, code := impl.LayOrder(less, list)
			if len(orders) == 0 {
				never++
				check(t, "LayOrder"+name, all(order, code), "[[] 6]")
				continue
			}
			check(t, "LayOrder"+name, all(order, code), all(orders[0], 0))
			check(t, "laid again"+name, all(impl.LayAll(less, list, order)), all(q, 0))
			if last := orders[len(orders)-1]; len(orders) > 1 && orders[0][0] > 0 {
				several++
				check(t, "laid again in the last order"+name, all(impl.LayAll(less, list, last)), all(q, 0))
			}
		}
	}
	if several < 60 || never < 60 {
		t.Errorf("%d lists had several orders, and %d none", several, never)
	}
}

// TestWhatAWayLiftsIsLaidAgain lifts all slabs of a way, and lays them.
func TestWhatAWayLiftsIsLaidAgain(t *testing.T) {
	laid := 0
	for i, q := range append(someSquares(), mazes(t)...) {
		list, _ := impl.FewestLifted(q, cell(0, 0), cell(q.Wide-1, q.High-1))
		less, slabs, code := impl.LiftAll(q, list)
		check(t, fmt.Sprint("LiftAll of ", i), code, 0)
		if order, code := impl.LayOrder(less, slabs); code == impl.OK {
			check(t, fmt.Sprint("laid again: ", i), all(impl.LayAll(less, slabs, order)), all(q, 0))
			laid++
		}
	}
	if laid < 60 {
		t.Errorf("only %d ways could be laid again", laid)
	}
}

func TestOrdersOfSomeKinds(t *testing.T) {
	stairs := []impl.Slab{slab(3, 3, 1, 1), slab(3, 2, 1, 1), slab(2, 2, 1, 1), slab(2, 1, 1, 1), slab(1, 1, 1, 1), slab(1, 0, 1, 1)}
	for name, c := range map[string]struct {
		q     impl.Square
		list  []impl.Slab
		order string
		count int
	}{
		"no slabs":                      {square(2, 2), nil, "[[] 0]", 1},
		"one order, backward":           {square(4, 4), stairs, "[[5 4 3 2 1 0] 0]", 1},
		"none without the first one":    {square(4, 4), stairs[:5], "[[] 6]", 0},
		"one upon another one":          {square(3, 3), []impl.Slab{slab(0, 0, 2, 2), slab(1, 1, 2, 2)}, "[[] 6]", 0},
		"one slab twice":                {square(3, 3), []impl.Slab{slab(0, 0, 1, 1), slab(0, 0, 1, 1)}, "[[] 6]", 0},
		"no sides":                      {square(3, 3), []impl.Slab{slab(0, 0, 1, 0)}, "[[] 6]", 0},
		"beyond the east":               {square(3, 3), []impl.Slab{slab(0, 0, 1, 1), slab(2, 1, 100, 1)}, "[[] 6]", 0},
		"beyond the south":              {square(12, 12), []impl.Slab{slab(11, 11, 1, 100), slab(0, 0, 1, 1)}, "[[] 6]", 0},
		"beyond the north west":         {square(3, 3), []impl.Slab{slab(-1, -1, 2, 2), slab(1, 0, 1, 1)}, "[[] 6]", 0},
		"far off":                       {square(3, 3), []impl.Slab{slab(0, 0, 1, 1), slab(127, 127, 127, 127)}, "[[] 6]", 0},
		"upon a slab of the square":     {read(t, "a.", ".."), []impl.Slab{slab(0, 0, 2, 1)}, "[[] 6]", 0},
		"between the north and another": {square(3, 3), []impl.Slab{slab(1, 1, 1, 1), slab(1, 0, 1, 1), slab(0, 1, 1, 1)}, "[[1 0 2] 0]", 4},
		"the least index that can be":   {square(4, 2), []impl.Slab{slab(2, 1, 1, 1), slab(3, 0, 1, 1), slab(1, 1, 1, 1), slab(0, 1, 1, 1)}, "[[1 3 2 0] 0]", 4},
		"one that bars no other one":    {square(2, 1), []impl.Slab{slab(1, 0, 1, 1), slab(0, 0, 1, 1)}, "[[0 1] 0]", 2},
	} {
		check(t, "LayOrder: "+name, all(impl.LayOrder(c.q, c.list)), c.order)
		check(t, "CountOrders: "+name, all(impl.CountOrders(c.q, c.list)), all(c.count, 0))
		check(t, "the second program: "+name, len(layOrders(c.q, c.list)), c.count)
	}
}

// Promise 13: no fewer stacks are right, of all stacks of a few slabs.
func TestNoFewerStacksOfAllStacks(t *testing.T) {
	for count := range 6 {
		lists := allLists(count, max(count, 1))
		for _, lift := range [][]int64{{0, 1, 2, 3, 4}, {7, -3, math.MaxInt64, math.MinInt64, 0}} {
			lift = lift[:count]
			for _, order := range permutations(count) {
				var relay []int64
				for _, i := range order {
					relay = append(relay, lift[i])
				}
				name := fmt.Sprint(" of ", lift, ", ", relay)
				want, number := stacked(lift, relay)
				check(t, "FewestStacks"+name, all(impl.FewestStacks(lift, relay)), all(want, number, 0))
				fewest := int64(count)
				for _, stacks := range lists {
					right := isStacked(lift, relay, stacks)
					check(t, fmt.Sprint("CheckStacks", name, ", ", stacks), all(impl.CheckStacks(lift, relay, stacks)), all(right, 0))
					if right {
						fewest = min(fewest, int64(len(distinct(stacks))))
					}
				}
				check(t, "the fewest"+name, number, fewest)
			}
		}
	}
}

// Promise 13: no fewer stacks are right, for so many slabs are laid in the order
// in which they are lifted, and no two of these can be on one stack.
func TestNoFewerStacksOfManySlabs(t *testing.T) {
	d := dice(67)
	rights := 0
	for range 3000 {
		lift, relay := someLift(&d, d.below(11))
		name := fmt.Sprint(" of ", lift, ", ", relay)
		stacks, number, code := impl.FewestStacks(lift, relay)
		want, count := stacked(lift, relay)
		check(t, "FewestStacks"+name, all(stacks, number, code), all(want, count, 0))
		check(t, "the fewest"+name, number, longestRun(lift, relay))
		check(t, "CheckStacks"+name, all(impl.CheckStacks(lift, relay, stacks)), "[true 0]")
		if !isStacked(lift, relay, stacks) {
			t.Errorf("slabs cannot be taken from %v%s", stacks, name)
		}
		if len(stacks) > 0 {
			stacks[d.below(len(stacks))] = int64(d.below(10))
			right := isStacked(lift, relay, stacks)
			check(t, fmt.Sprint("CheckStacks", name, ", ", stacks), all(impl.CheckStacks(lift, relay, stacks)), all(right, 0))
			if right {
				rights++
			}
		}
	}
	if rights < 500 || rights > 2500 {
		t.Errorf("%d of the changed stacks were right", rights)
	}
}

func TestStacksOfSomeKinds(t *testing.T) {
	up, down := []int64{0, 1, 2, 3, 4, 5, 6, 7, 8, 9}, []int64{9, 8, 7, 6, 5, 4, 3, 2, 1, 0}
	check(t, "no slabs", all(impl.FewestStacks(nil, nil)), "[[] 0 0]")
	check(t, "one stack", all(impl.FewestStacks(up, down)), "[[0 0 0 0 0 0 0 0 0 0] 1 0]")
	check(t, "ten stacks", all(impl.FewestStacks(up, up)), "[[0 1 2 3 4 5 6 7 8 9] 10 0]")
	check(t, "ten stacks are right", all(impl.CheckStacks(up, up, down)), "[true 0]")
	check(t, "the first stack of several", all(impl.FewestStacks([]int64{5, 6, 7, 8}, []int64{7, 8, 5, 6})), "[[0 1 0 1] 2 0]")
	check(t, "first by its number", all(impl.FewestStacks([]int64{1, 2, 3, 4}, []int64{4, 1, 2, 3})), "[[0 1 2 0] 3 0]")
	lift, relay := []int64{1, 2, 3}, []int64{2, 3, 1}
	for _, c := range []struct {
		stacks []int64
		want   bool
	}{
		{[]int64{0, 0, 1}, true}, {[]int64{9, 0, 9}, true}, {[]int64{0, 9, 1}, true}, {[]int64{0, 1, 1}, false}, {[]int64{0, 0, 0}, false},
		{nil, false}, {[]int64{0, 1}, false}, {[]int64{0, 1, 2, 3}, false}, {[]int64{0, 0, -1}, false}, {[]int64{0, 0, 10}, false},
		{[]int64{0, 1, 256}, false}, {[]int64{0, 1, math.MinInt64}, false}, {[]int64{0, math.MaxInt64, 1}, false}, {make([]int64, 1000), false},
	} {
		check(t, fmt.Sprint("CheckStacks of ", len(c.stacks)), all(impl.CheckStacks(lift, relay, c.stacks)), all(c.want, 0))
	}
	check(t, "no stacks of no slabs", all(impl.CheckStacks(nil, nil, nil)), "[true 0]")
	check(t, "one stack of no slabs", all(impl.CheckStacks(nil, nil, []int64{0})), "[false 0]")
}

func TestErrorsOfStacks(t *testing.T) {
	up := []int64{0, 1, 2, 3, 4, 5, 6, 7, 8, 9, 10}
	for name, c := range map[string]struct {
		lift, relay []int64
		code        int
	}{
		"11 slabs":                    {up, up, 3},
		"11 slabs, one twice":         {make([]int64, 11), up, 3},
		"11 slabs, other ones":        {up, nil, 3},
		"a number twice":              {[]int64{1, 2, 1}, []int64{1, 2, 1}, 4},
		"a number twice, relay right": {[]int64{1, 2, 1}, []int64{1, 2, 3}, 4},
		"a number twice in relay":     {[]int64{1, 2}, []int64{1, 1}, 4},
		"another number":              {[]int64{1, 2}, []int64{1, 3}, 4},
		"too few":                     {[]int64{1, 2}, []int64{1}, 4},
		"too many":                    {[]int64{1, 2}, []int64{1, 2, 3}, 4},
		"too many, one twice":         {[]int64{1, 2}, []int64{1, 2, 2}, 4},
		"11 in relay":                 {up[:10], up, 4},
		"none in relay":               {[]int64{1}, nil, 4},
		"none lifted":                 {nil, []int64{1}, 4},
		"equal by 8 bits":             {[]int64{1}, []int64{257}, 4},
	} {
		for _, stacks := range [][]int64{nil, {0, 1}, {-1, 10, 3}, make([]int64, 11)} {
			checkCode(t, name, c.code, relayCalls(c.lift, c.relay, stacks)...)
		}
	}
	for name, c := range map[string]struct {
		lift, stacks []int64
		code         int
	}{
		"11 slabs":                     {up, make([]int64, 11), 3},
		"11 slabs, one twice":          {make([]int64, 11), nil, 3},
		"a number twice":               {[]int64{1, 2, 2}, []int64{0, 0, 0}, 4},
		"a number twice, wrong stacks": {[]int64{1, 1}, []int64{-1}, 4},
		"too few stacks":               {[]int64{1, 2}, []int64{0}, 2},
		"too many stacks":              {[]int64{1, 2}, []int64{0, 0, 0}, 2},
		"no stacks":                    {[]int64{1, 2}, nil, 2},
		"stacks of no slabs":           {nil, []int64{0}, 2},
		"less than 0":                  {[]int64{1, 2}, []int64{0, -1}, 2},
		"more than 9":                  {[]int64{1, 2}, []int64{10, 0}, 2},
		"the greatest number":          {[]int64{1, 2}, []int64{0, math.MaxInt64}, 2},
		"the least number":             {[]int64{1, 2}, []int64{0, math.MinInt64}, 2},
		"0 by 32 bits":                 {[]int64{1, 2}, []int64{0, 1 << 32}, 2},
	} {
		checkCode(t, name, c.code, takeCall(c.lift, c.stacks))
	}
}

func TestTakeOrder(t *testing.T) {
	d := dice(68)
	for range 2000 {
		lift, _ := someLift(&d, d.below(11))
		var stacks, want []int64
		below := 1 + d.below(10)
		for range lift {
			stacks = append(stacks, int64(d.below(below)))
		}
		for at := int64(9); at >= 0; at-- {
			for i := len(lift) - 1; i >= 0; i-- {
				if stacks[i] == at {
					want = append(want, lift[i])
				}
			}
		}
		check(t, fmt.Sprint("TakeOrder of ", lift, ", ", stacks), all(impl.TakeOrder(lift, stacks)), all(want, 0))
	}
	check(t, "no slabs", all(impl.TakeOrder(nil, nil)), "[[] 0]")
	check(t, "the greatest stack first", all(impl.TakeOrder([]int64{7, 8, 9}, []int64{0, 9, 4})), "[[8 9 7] 0]")
	check(t, "the uppermost one first", all(impl.TakeOrder([]int64{7, 8, 9, 6}, []int64{3, 0, 3, 0})), "[[9 7 6 8] 0]")
}

func TestWeightOf(t *testing.T) {
	for wide := -128; wide < 128; wide++ {
		for high := -128; high < 128; high++ {
			want := int64(0)
			if wide >= 1 && wide <= 12 && high >= 1 && high <= 12 {
				want = int64(4 * wide * high)
			}
			for _, s := range []impl.Slab{slab(0, 0, int8(wide), int8(high)), slab(-128, 127, int8(wide), int8(high))} {
				if got := impl.WeightOf(s); got != want {
					t.Errorf("WeightOf of %v: got %d, want %d", s, got, want)
				}
			}
		}
	}
	check(t, "as heavy as can be", impl.WeightOf(slab(0, 0, 12, 12)), 576)
}

// checkLoads compares all functions of barrows with the second program, but
// those of lists that are not given.
func checkLoads(t *testing.T, list []impl.Slab, holds int64, loads, barrows [][]int64) {
	t.Helper()
	name := fmt.Sprint(" of ", list, ", ", holds)
	next, number := nextLoads(list, holds)
	check(t, "BarrowLoads"+name, all(impl.BarrowLoads(list, holds)), all(next, number, 0))
	if loads != nil {
		fewest, count := fewestLoads(list, loads, holds)
		check(t, "FewestLoads"+name, all(impl.FewestLoads(list, holds)), all(fewest, count, 0))
	}
	if barrows != nil {
		two, weight := twoBarrows(list, barrows)
		check(t, "TwoBarrows"+name, all(impl.TwoBarrows(list)), all(two, weight, 0))
	}
}

func TestBarrows(t *testing.T) {
	d := dice(69)
	var loads, barrows [8][][]int64
	for count := range loads {
		loads[count], barrows[count] = allLoads(count), allLists(count, 2)
	}
	fewer := 0
	for range 1500 {
		list := someLoads(&d, d.below(8), []int{2, 3, 5, 12}[d.below(4)])
		heaviest := int64(1)
		for _, s := range list {
			heaviest = max(heaviest, weightOf(s))
		}
		holds := min(heaviest+int64(d.below(int(heaviest)+1)), 600)
		checkLoads(t, list, holds, loads[len(list)], barrows[len(list)])
		_, next, _ := impl.BarrowLoads(list, holds)
		if _, fewest, _ := impl.FewestLoads(list, holds); fewest < next {
			fewer++
		}
	}
	if fewer < 150 {
		t.Errorf("only %d lists had fewer loads in another order", fewer)
	}
}

// TestTenSlabsOnBarrows has as many slabs as can be.
func TestTenSlabsOnBarrows(t *testing.T) {
	d := dice(70)
	loads, barrows := allLoads(10), allLists(10, 2)
	for range 4 {
		list := someLoads(&d, 10, 6)
		checkLoads(t, list, 4*36+int64(d.below(100)), loads, barrows)
		checkLoads(t, list, 600, nil, nil)
	}
	heavy := slices.Repeat([]impl.Slab{slab(0, 0, 12, 12)}, 10)
	up, zeros := []int64{0, 1, 2, 3, 4, 5, 6, 7, 8, 9}, make([]int64, 10)
	check(t, "BarrowLoads, each one alone", all(impl.BarrowLoads(heavy, 600)), all(up, 10, 0))
	check(t, "FewestLoads, each one alone", all(impl.FewestLoads(heavy, 600)), all(up, 10, 0))
	check(t, "FewestLoads, what is just held", all(impl.FewestLoads(heavy, 576)), all(up, 10, 0))
	check(t, "TwoBarrows, half of them", all(impl.TwoBarrows(heavy)), all([]int64{0, 0, 0, 0, 0, 1, 1, 1, 1, 1}, 2880, 0))
	light := slices.Repeat([]impl.Slab{slab(0, 0, 1, 1)}, 10)
	check(t, "BarrowLoads, all in one", all(impl.BarrowLoads(light, 40)), all(zeros, 1, 0))
	check(t, "FewestLoads, all in one", all(impl.FewestLoads(light, 40)), all(zeros, 1, 0))
	check(t, "FewestLoads, one less", all(impl.FewestLoads(light, 39)), all([]int64{0, 0, 0, 0, 0, 0, 0, 0, 0, 1}, 2, 0))
}

// sized returns slabs of 1 by 1 up to 12 by 1, by their lengths.
func sized(longs ...int8) []impl.Slab {
	var list []impl.Slab
	for _, long := range longs {
		list = append(list, slab(0, 0, long, 1))
	}
	return list
}

func TestBarrowsOfSomeKinds(t *testing.T) {
	for name, c := range map[string]struct {
		longs              []int8
		holds              int64
		next, fewest, both string
	}{
		"no slabs":                   {nil, 1, "[[] 0 0]", "[[] 0 0]", "[[] 0 0]"},
		"one slab":                   {[]int8{3}, 12, "[[0] 1 0]", "[[0] 1 0]", "[[0] 12 0]"},
		"two alike":                  {[]int8{2, 2}, 8, "[[0 1] 2 0]", "[[0 1] 2 0]", "[[0 1] 8 0]"},
		"a load before is not asked": {[]int8{2, 3, 1}, 16, "[[0 1 1] 2 0]", "[[0 1 0] 2 0]", "[[0 1 0] 12 0]"},
		"the first list of several":  {[]int8{3, 3, 1, 1}, 16, "[[0 1 1 2] 3 0]", "[[0 1 0 1] 2 0]", "[[0 1 0 1] 16 0]"},
		"what fits first is not all": {[]int8{3, 2, 5, 6}, 32, "[[0 0 1 2] 3 0]", "[[0 1 0 1] 2 0]", "[[0 1 0 1] 32 0]"},
		"not the greatest ones first": {[]int8{1, 4, 2, 3}, 20, "[[0 0 1 1] 2 0]", "[[0 0 1 1] 2 0]",
			"[[0 0 1 1] 20 0]"},
		"first loads as full as can be": {[]int8{1, 2, 3, 6}, 24, "[[0 0 0 1] 2 0]", "[[0 0 0 1] 2 0]", "[[0 0 0 1] 24 0]"},
	} {
		list := sized(c.longs...)
		check(t, "BarrowLoads: "+name, all(impl.BarrowLoads(list, c.holds)), c.next)
		check(t, "FewestLoads: "+name, all(impl.FewestLoads(list, c.holds)), c.fewest)
		check(t, "TwoBarrows: "+name, all(impl.TwoBarrows(list)), c.both)
	}
}

func TestErrorsOfBarrows(t *testing.T) {
	eleven := sized(1, 1, 1, 1, 1, 1, 1, 1, 1, 1, 1)
	holdsBeyond := []int64{0, -1, 601, 256 * 256, 1<<32 + 5, math.MinInt64, math.MaxInt64}
	for _, s := range []impl.Slab{{}, slab(0, 0, 0, 1), slab(0, 0, 1, 0), slab(0, 0, 13, 1), slab(0, 0, 1, 13), slab(0, 0, -1, -1), slab(0, 0, 127, 127), slab(0, 0, -128, -128)} {
		for _, list := range [][]impl.Slab{{s}, append(sized(1, 2), s), append(slices.Clone(eleven), s), append([]impl.Slab{s}, eleven...)} {
			for _, holds := range append(holdsBeyond, 1, 600) {
				checkCode(t, fmt.Sprint("no weight: ", s), 1, loadCalls(list, holds)...)
			}
			checkCode(t, fmt.Sprint("no weight: ", s), 1, twoCall(list))
		}
	}
	for _, holds := range append(holdsBeyond, 1, 600) {
		checkCode(t, fmt.Sprint("11 slabs, ", holds), 3, loadCalls(eleven, holds)...)
	}
	checkCode(t, "11 slabs", 3, twoCall(eleven))
	for _, holds := range holdsBeyond {
		for _, list := range [][]impl.Slab{nil, sized(1), sized(12, 12), {slab(0, 0, 12, 12)}} {
			checkCode(t, fmt.Sprint("it cannot hold ", holds), 2, loadCalls(list, holds)...)
		}
	}
	checkCode(t, "the first slab is heavier", 6, loadCalls(sized(2, 1), 7)...)
	checkCode(t, "the last slab is heavier", 6, loadCalls(sized(1, 1, 1, 2), 7)...)
	checkCode(t, "heavier by 1", 6, loadCalls([]impl.Slab{slab(0, 0, 12, 12)}, 575)...)
	checkCode(t, "the least weight", 6, loadCalls(sized(1), 3)...)
	check(t, "TwoBarrows hold all", all(impl.TwoBarrows([]impl.Slab{slab(0, 0, 12, 12), slab(0, 0, 12, 12), slab(0, 0, 12, 12)})), "[[0 0 1] 1152 0]")
}

func TestOrderText(t *testing.T) {
	d := dice(71)
	for range 2000 {
		var order []int64
		for range []int{0, 1, 3, 100}[d.below(4)] {
			order = append(order, int64(d.below([]int{3, 12, 1000}[d.below(3)])))
		}
		s := orderText(order)
		check(t, fmt.Sprint("OrderText of ", order), impl.OrderText(order), s)
		check(t, fmt.Sprintf("ReadOrder of %q", s), all(impl.ReadOrder(s)), all(order, 0))
		if !isOrderText(s) {
			t.Errorf("%q is no text", s)
		}
	}
	check(t, "one number", impl.OrderText([]int64{0}), "0")
	check(t, "several numbers", impl.OrderText([]int64{10, 0, 999, 7, 7}), "10 0 999 7 7")
	hundred := make([]int64, 100)
	check(t, "100 numbers", impl.OrderText(hundred), strings.Repeat("0 ", 99)+"0")
	check(t, "101 numbers", impl.OrderText(append(hundred, 0)), "")
	for _, n := range []int64{-1, 1000, 1 << 32, math.MinInt64, math.MaxInt64} {
		check(t, fmt.Sprint("OrderText with ", n), all(impl.OrderText([]int64{n}), impl.OrderText([]int64{1, 2, n}), impl.OrderText([]int64{n, 1})), "[  ]")
	}
}

func TestReadOrderOfNoText(t *testing.T) {
	for _, s := range []string{
		" ", "  ", "\n", "\t", "1\n", "1 2\n", " 1", "1 ", "1  2", "1\t2", "1\n2", "1,2", "1, 2", "01", "00", "1 02", "-1", "-0", "+1", "1.0", "1e2", "0x1", "1_0", "a", "1a", "1 a",
		"1000", "1 1000", "9999", "4294967296", "18446744073709551617", "99999999999999999999999", "\x00", "1\x00", "\xff", "１", "1\u00a02", "1 -2", "none", strings.Repeat("1 ", 100) + "1", strings.Repeat("0 ", 100),
	} {
		check(t, fmt.Sprintf("ReadOrder of %q", s), all(impl.ReadOrder(s)), "[[] 5]")
		if isOrderText(s) {
			t.Errorf("%q is a text", s)
		}
	}
	check(t, "no numbers", all(impl.ReadOrder("")), "[[] 0]")
	check(t, "a number twice", all(impl.ReadOrder("5 5")), "[[5 5] 0]")
	check(t, "100 numbers", all(impl.ReadOrder(strings.Repeat("999 ", 99)+"999")), all(slices.Repeat([]int64{999}, 100), 0))
}

// TestReadOrderOfChangedTexts changes single bytes of texts, takes them away,
// and adds some.
func TestReadOrderOfChangedTexts(t *testing.T) {
	d := dice(72)
	good := 0
	for range 4000 {
		var order []int64
		for range 1 + d.below(8) {
			order = append(order, int64(d.below([]int{3, 12, 1000}[d.below(3)])))
		}
		s := changed(&d, orderText(order), "0123456789  -+\n")
		good += checkRead(t, s, isOrderText(s), impl.ReadOrder, impl.OrderText)
	}
	if good < 1000 {
		t.Errorf("only %d texts were good", good)
	}
}

// Promise 1: no function modifies its arguments, and all results are equal for
// equal arguments, in memory of their own.
func TestLiftingIsPure(t *testing.T) {
	d := dice(73)
	squares := append(someSquares()[:40], smallSquares()[:40]...)
	for _, q := range notValid() {
		squares = append(squares, q)
	}
	for i, q := range squares {
		kept := slab(7, 7, 7, 7)
		q.Slabs = roomy(q.Slabs, kept)
		cells := []impl.Cell{cell(0, 0)}
		if isRight(q) {
			cells = someWalk(&d, q, 20)
		}
		cells = roomy(cells, cell(7, 7))
		lifted := roomy(someIndices(&d, len(q.Slabs), 6), 7)
		less, list := q, []impl.Slab{slab(0, 0, 1, 1)}
		if isRight(q) {
			less, list, _ = impl.LiftAll(q, lifted)
		}
		less.Slabs, list = roomy(less.Slabs, kept), roomy(list, kept)
		order := roomy([]int64{0, 1, 2, 3, 4, 5}[:len(list)], 7)
		if found, code := impl.LayOrder(less, list); code == impl.OK {
			order = roomy(found, 7)
		}
		last := cell(q.Wide-1, q.High-1)
		calls := append(wayCalls(q, cell(0, 0), last), wayCalls(q, last, last)...)
		calls = append(calls, orderCalls(less, list)...)
		calls = append(calls, liftedCall(q, cells), liftAllCall(q, lifted), liftAllCall(q, nil), canLayCall(q, slab(0, 0, 1, 1)), layAllCall(less, list, order), layAllCall(q, nil, nil))
		for _, c := range calls {
			checkPure(t, fmt.Sprint(c.name, " of ", i), all(q, less, cells, lifted, list, order), c.call)
		}
	}
}

// Promise 1, as above.
func TestStacksAndBarrowsArePure(t *testing.T) {
	d := dice(74)
	for i := range 200 {
		lift, relay := someLift(&d, d.below(12))
		stacks := make([]int64, len(lift))
		for k := range stacks {
			stacks[k] = int64(d.below(10))
		}
		if i%4 == 0 && len(lift) > 0 {
			relay[0]--
		}
		lift, relay, stacks = roomy(lift, 7), roomy(relay, 7), roomy(stacks, 7)
		list := roomy(someLoads(&d, d.below(7), 6), slab(7, 7, 7, 7))
		order := roomy([]int64{5, 0, 999, int64(d.below(1100))}, 7)
		calls := append(relayCalls(lift, relay, stacks), loadCalls(list, 144)...)
		calls = append(calls, takeCall(lift, stacks), twoCall(list),
			liftCall{"WeightOf", func() []any { return all(impl.WeightOf(slab(0, 0, 3, 2))) }, nil},
			liftCall{"OrderText", func() []any { return all(impl.OrderText(order)) }, nil},
			liftCall{"ReadOrder", func() []any { return all(impl.ReadOrder(orderText(order))) }, nil})
		for _, c := range calls {
			checkPure(t, fmt.Sprint(c.name, " of ", i), all(lift, relay, stacks, list, order), c.call)
		}
	}
}

// Promise 1: functions return for great arguments, too.
func TestLiftingOfManyElements(t *testing.T) {
	const many = 1000000
	q := read(t, "aab", "ccb", "cc.")
	numbers, slabs := make([]int64, many), make([]impl.Slab, many)
	checkCode(t, "many cells", 3, liftedCall(q, make([]impl.Cell, many)))
	checkCode(t, "many indices", 4, liftAllCall(q, numbers))
	checkCode(t, "many slabs", 3, layAllCall(q, slabs, numbers))
	checkCode(t, "a long order", 4, layAllCall(q, slabs[:10], numbers))
	checkCode(t, "many slabs", 3, orderCalls(q, slabs)...)
	checkCode(t, "many slabs", 3, relayCalls(numbers, numbers, numbers)...)
	checkCode(t, "many in relay", 4, relayCalls([]int64{0}, numbers, numbers)...)
	check(t, "many stacks", all(impl.CheckStacks([]int64{0}, []int64{0}, numbers)), "[false 0]")
	checkCode(t, "many slabs", 3, takeCall(numbers, numbers))
	checkCode(t, "many stacks", 2, takeCall([]int64{0}, numbers))
	checkCode(t, "many slabs without weight", 1, loadCalls(slabs, 9)...)
	checkCode(t, "many slabs without weight", 1, twoCall(slabs))
	heavy := slices.Repeat([]impl.Slab{slab(0, 0, 1, 1)}, many)
	checkCode(t, "many slabs", 3, loadCalls(heavy, 0)...)
	checkCode(t, "many slabs", 3, twoCall(heavy))
	check(t, "OrderText", impl.OrderText(numbers), "")
	great := square(12, 12, slabs...)
	checkCode(t, "a square of many slabs", 1, wayCalls(great, cell(0, 0), cell(0, 0))...)
	checkCode(t, "a square of many slabs", 1, liftAllCall(great, numbers), canLayCall(great, slab(0, 0, 1, 1)))
	for _, s := range []string{"1", "1 ", " ", "\n", "9", "999 ", "-", "\xff", "1 1000 "} {
		long := strings.Repeat(s, many/len(s))
		check(t, "ReadOrder of much", all(impl.ReadOrder(long)), "[[] 5]")
		check(t, "ReadOrder of much behind", all(impl.ReadOrder("0 1 2 "+long)), "[[] 5]")
	}
}

// TestExampleOfLifting is the example of the document.
func TestExampleOfLifting(t *testing.T) {
	q := read(t, "aab", "ccb", "cc.")
	check(t, "lifted", all(impl.FewestLifted(q, cell(0, 0), cell(2, 2))), "[[0 1] 0]")
	check(t, "way", all(impl.WayUnder(q, cell(0, 0), cell(2, 2))), "[[{0 0} {1 0} {2 0} {2 1} {2 2}] 0]")
	less, slabs, _ := impl.LiftAll(q, []int64{0, 1})
	check(t, "orders", all(impl.CountOrders(less, slabs)), "[2 0]")
	check(t, "stacks", all(impl.FewestStacks([]int64{1, 2, 3}, []int64{2, 3, 1})), "[[0 0 1] 2 0]")
	list := []impl.Slab{slab(0, 0, 2, 1), slab(0, 0, 1, 2), slab(0, 0, 2, 2)}
	check(t, "weights", all(impl.WeightOf(list[0]), impl.WeightOf(list[1]), impl.WeightOf(list[2])), "[8 8 16]")
	check(t, "loads", all(impl.BarrowLoads(list, 24)), "[[0 0 1] 2 0]")
	check(t, "fewest loads", all(impl.FewestLoads(list, 24)), "[[0 0 1] 2 0]")
}
