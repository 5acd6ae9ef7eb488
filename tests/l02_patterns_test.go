package tests

import (
	"fmt"
	"math"
	"slices"
	"strings"
	"testing"

	"loop.example/g01383/impl"
)

// noPattern is the zero pattern, which comes with all codes but OK.
var noPattern = impl.Pattern{}

// readPattern returns the pattern with some lines.
func readPattern(t *testing.T, lines ...string) impl.Pattern {
	t.Helper()
	p, code := impl.ReadPattern(text(lines...))
	if code != impl.OK {
		t.Fatalf("ReadPattern of %q: %d", lines, code)
	}
	return p
}

// farPlaces returns numbers of places that are in their range.
func farPlaces() [][2]int {
	return [][2]int{{0, 0}, {-1, -1}, {1, -1}, {-7, 5}, {-13, -29}, {1000, 1000}, {-1000, -1000}, {1000, -1000}, {-1000, 1000}, {997, -993}}
}

// numbersBeyond returns numbers beyond those of places.
func numbersBeyond() []int64 {
	return []int64{1001, -1001, 1 << 32, 1<<32 + 1, math.MinInt64, math.MaxInt64}
}

// sidesBeyond returns numbers that are no sides.
func sidesBeyond() []int64 {
	return []int64{0, 13, -1, 256, 257, 1<<32 + 1, math.MinInt64, math.MaxInt64}
}

func TestLimitsOfPatterns(t *testing.T) {
	check(t, "limits", all(impl.MaxAcross, impl.MaxDown, impl.MaxParts), "[8 8 12]")
}

func TestPatternsOfTheModelAreValid(t *testing.T) {
	wraps, slides, many := 0, 0, 0
	for i, p := range somePlanes() {
		if !isPatternRight(p) || !isPlane(p) || !impl.ValidPattern(p) {
			t.Fatalf("plane %d is none: %v", i, p)
		}
		for _, s := range p.Slabs {
			if s.X+s.Wide > p.Across && s.Y+s.High > p.Down {
				wraps++
			}
		}
		if p.Slide > 0 && p.Down > 1 {
			slides++
		}
		if len(p.Slabs) > 5 {
			many++
		}
	}
	if wraps < 30 || slides < 50 || many < 50 {
		t.Errorf("the planes are too plain: %d, %d, %d", wraps, slides, many)
	}
	for i, p := range somePatterns() {
		if !isPatternRight(p) || !impl.ValidPattern(p) {
			t.Fatalf("pattern %d is not valid: %v", i, p)
		}
	}
	if n := len(openPatterns()); n < 200 {
		t.Errorf("only %d patterns do not cover the plane", n)
	}
}

func TestNotValidPatterns(t *testing.T) {
	for name, p := range notPatterns() {
		if impl.ValidPattern(p) || isPatternRight(p) {
			t.Errorf("%s: valid", name)
		}
	}
	for name, p := range map[string]impl.Pattern{
		"Across, Down and Slide that are reached": pattern(8, 8, 7, slab(7, 7, 12, 12)),
		"sides of 1":                pattern(1, 1, 0, slab(0, 0, 1, 1)),
		"12 slabs":                  pattern(8, 8, 0, manySlabs(12)...),
		"slabs that lie on others":  pattern(2, 1, 0, slab(0, 0, 2, 1), slab(1, 0, 2, 1)),
		"a slab that lies on it":    pattern(1, 1, 0, slab(0, 0, 12, 12)),
		"a slab as wide as can be":  pattern(2, 1, 1, slab(1, 0, 12, 1)),
		"order by Y, and then by X": pattern(2, 2, 0, slab(1, 0, 1, 1), slab(0, 1, 1, 1)),
	} {
		check(t, "valid: "+name, impl.ValidPattern(p), true)
	}
}

// TestValidPatternOfAnySlabs tries numbers around those that are valid.
func TestValidPatternOfAnySlabs(t *testing.T) {
	d := dice(13)
	valid := 0
	for range 30000 {
		p := pattern(int8(1+d.below(9)), int8(1+d.below(9)), int8(d.below(5)))
		for range d.below(4) {
			p.Slabs = append(p.Slabs, slab(int8(d.below(6)), int8(d.below(6)), int8(1+d.below(13)), int8(1+d.below(13))))
		}
		if d.below(4) > 0 {
			slices.SortFunc(p.Slabs, func(a, b impl.Slab) int { return place(a) - place(b) })
		}
		got := impl.ValidPattern(p)
		if got != isPatternRight(p) {
			t.Fatalf("ValidPattern of %v: %v", p, got)
		}
		if got && len(p.Slabs) > 1 {
			valid++
		}
	}
	if valid < 1000 {
		t.Errorf("only %d patterns with slabs were valid", valid)
	}
}

// placeCall is a function with numbers of a place, or with sides, or with both,
// and all results but the code that come with an error.
type placeCall struct {
	name  string
	call  func(p impl.Pattern, wide, high, x, y int64) []any
	zeros []any
	sides bool
	place bool
}

func placeCalls() []placeCall {
	return []placeCall{
		{"PartAt", func(p impl.Pattern, _, _, x, y int64) []any { return all(impl.PartAt(p, x, y)) }, all(0), false, true},
		{"LayPattern", func(p impl.Pattern, w, h, x, y int64) []any { return all(impl.LayPattern(p, w, h, x, y)) }, all(none), true, true},
		{"CutsIn", func(p impl.Pattern, w, h, x, y int64) []any { return all(impl.CutsIn(p, w, h, x, y)) }, all("[]"), true, true},
		{"WholeSlabs", func(p impl.Pattern, w, h, x, y int64) []any { return all(impl.WholeSlabs(p, w, h, x, y)) }, all(0), true, true},
		{"WasteIn", func(p impl.Pattern, w, h, x, y int64) []any { return all(impl.WasteIn(p, w, h, x, y)) }, all(0), true, true},
		{"BestStart", func(p impl.Pattern, w, h, _, _ int64) []any { return all(impl.BestStart(p, w, h)) }, all(0, 0, 0), true, false},
		{"FewestCuts", func(p impl.Pattern, w, h, _, _ int64) []any { return all(impl.FewestCuts(p, w, h)) }, all(0, 0, 0), true, false},
		{"RepeatsBy", func(p impl.Pattern, _, _, x, y int64) []any { return all(impl.RepeatsBy(p, x, y)) }, all(false), false, true},
	}
}

// plainCall is a function of a pattern alone.
type plainCall struct {
	name  string
	call  func(p impl.Pattern) []any
	zeros []any
}

// coveredCalls returns the functions that ask for the plane to be covered.
func coveredCalls() []plainCall {
	return []plainCall{
		{"PeriodOf", func(p impl.Pattern) []any { return all(impl.PeriodOf(p)) }, all(0, 0)},
		{"LongJoint", func(p impl.Pattern) []any { return all(impl.LongJoint(p)) }, all(false, false)},
		{"MirrorPattern", func(p impl.Pattern) []any { return all(impl.MirrorPattern(p)) }, all(noPattern)},
		{"DoublePattern", func(p impl.Pattern) []any { return all(impl.DoublePattern(p)) }, all(noPattern)},
	}
}

// coded adds a code to results.
func coded(zeros []any, code int) []any { return append(slices.Clone(zeros), code) }

// TestNotValidPatternComesFirst calls each function with patterns that are not
// valid, and with other arguments that are wrong as well.
func TestNotValidPatternComesFirst(t *testing.T) {
	for name, p := range notPatterns() {
		for _, c := range placeCalls() {
			check(t, c.name+" of "+name, c.call(p, 2, 2, 0, 0), coded(c.zeros, 1))
			check(t, c.name+" of "+name+", wrong sides", c.call(p, 0, 13, 0, 0), coded(c.zeros, 1))
			check(t, c.name+" of "+name+", wrong place", c.call(p, 2, 2, 1001, -1001), coded(c.zeros, 1))
			check(t, c.name+" of "+name+", many slabs", c.call(p, 12, 12, 0, 0), coded(c.zeros, 1))
		}
		for _, c := range coveredCalls() {
			check(t, c.name+" of "+name, c.call(p), coded(c.zeros, 1))
		}
		check(t, "CoversPlane of "+name, all(impl.CoversPlane(p)), "[false 1]")
		check(t, "FirstGap of "+name, all(impl.FirstGap(p)), all(impl.Cell{}, false, 1))
		check(t, "AreaOfPattern of "+name, all(impl.AreaOfPattern(p)), "[0 1]")
		check(t, "PatternText of "+name, impl.PatternText(p), "")
	}
}

// TestRangeComesSecond calls functions with numbers and sides that are out of
// range, ahead of ErrState and ErrLimit.
func TestRangeComesSecond(t *testing.T) {
	open := pattern(2, 2, 0, manySlabs(2)...)
	for _, p := range []impl.Pattern{bricks(), tiles(), open} {
		for _, c := range placeCalls() {
			for _, n := range numbersBeyond() {
				if c.place {
					check(t, fmt.Sprint(c.name, " at x ", n), c.call(p, 12, 12, n, 0), coded(c.zeros, 2))
					check(t, fmt.Sprint(c.name, " at y ", n), c.call(p, 12, 12, 0, n), coded(c.zeros, 2))
				}
			}
			for _, n := range sidesBeyond() {
				if c.sides {
					check(t, fmt.Sprint(c.name, " as wide as ", n), c.call(p, n, 12, 0, 0), coded(c.zeros, 2))
					check(t, fmt.Sprint(c.name, " as high as ", n), c.call(p, 12, n, 0, 0), coded(c.zeros, 2))
				}
			}
		}
	}
	for _, c := range placeCalls() {
		for _, n := range []int64{-1000, 1000} {
			got := c.call(bricks(), 1, 12, n, -n)
			check(t, c.name+", numbers that are reached", got[len(got)-1], 0)
			got = c.call(bricks(), 5, 12, -n, n)
			check(t, c.name+", numbers that are reached", got[len(got)-1], 0)
		}
	}
}

// TestStateComesThird calls functions with patterns that do not cover the plane,
// also where there would be too many slabs.
func TestStateComesThird(t *testing.T) {
	for i, p := range append(openPatterns(), pattern(8, 8, 0, manySlabs(12)...)) {
		for _, c := range placeCalls() {
			check(t, fmt.Sprint(c.name, " of the open pattern ", i), c.call(p, 3, 4, 5, -6), coded(c.zeros, 4))
			check(t, fmt.Sprint(c.name, " of the open pattern ", i, ", much"), c.call(p, 12, 12, 0, 0), coded(c.zeros, 4))
		}
		for _, c := range coveredCalls() {
			check(t, fmt.Sprint(c.name, " of the open pattern ", i), c.call(p), coded(c.zeros, 4))
		}
	}
}

func TestSamePattern(t *testing.T) {
	a := pattern(3, 2, 1, slab(0, 0, 1, 1), slab(1, 0, 2, 1))
	check(t, "itself", impl.SamePattern(a, pattern(3, 2, 1, slab(0, 0, 1, 1), slab(1, 0, 2, 1))), true)
	for i, b := range []impl.Pattern{
		pattern(4, 2, 1, a.Slabs...),
		pattern(3, 3, 1, a.Slabs...),
		pattern(3, 2, 2, a.Slabs...),
		pattern(3, 2, 1, a.Slabs[:1]...),
		pattern(3, 2, 1, a.Slabs[0], a.Slabs[1], slab(0, 1, 1, 1)),
		pattern(3, 2, 1, a.Slabs[1], a.Slabs[0]),
		pattern(3, 2, 1, slab(0, 0, 1, 1), slab(0, 0, 2, 1)),
		pattern(3, 2, 1, slab(0, 0, 1, 1), slab(1, 1, 2, 1)),
		pattern(3, 2, 1, slab(0, 0, 1, 1), slab(1, 0, 1, 1)),
		pattern(3, 2, 1, slab(0, 0, 1, 1), slab(1, 0, 2, 2)),
		noPattern,
	} {
		check(t, fmt.Sprint("other ", i), all(impl.SamePattern(a, b), impl.SamePattern(b, a)), "[false false]")
	}
	for name, b := range notPatterns() {
		check(t, "not valid: "+name, all(impl.SamePattern(b, b), impl.SamePattern(a, b)), "[true false]")
	}
	check(t, "nil and empty", impl.SamePattern(pattern(2, 2, 0), impl.Pattern{Across: 2, Down: 2, Slabs: []impl.Slab{}}), true)
	check(t, "one plane, two patterns", impl.SamePattern(pattern(2, 1, 0, manySlabs(2)...), tiles()), false)
}

func TestCoversPlaneAndFirstGap(t *testing.T) {
	for i, p := range slices.Concat(somePlanes(), somePatterns()) {
		gap, more, covers := gapOf(p)
		check(t, fmt.Sprint("CoversPlane of ", i), all(impl.CoversPlane(p)), all(isPlane(p), 0))
		code := impl.OK
		if covers {
			code = impl.ErrNotFound
		}
		check(t, fmt.Sprint("FirstGap of ", i), all(impl.FirstGap(p)), all(gap, more, code))
		area := 0
		for _, s := range p.Slabs {
			area += int(s.Wide) * int(s.High)
		}
		check(t, fmt.Sprint("AreaOfPattern of ", i), all(impl.AreaOfPattern(p)), all(area, 0))
		if covers && area != int(p.Across)*int(p.Down) {
			t.Errorf("plane %d has the area %d", i, area)
		}
	}
}

func TestGapsOfSomeKinds(t *testing.T) {
	for name, c := range map[string]struct {
		p    impl.Pattern
		want []any
	}{
		"covered by none":                {pattern(2, 1, 0, slab(0, 0, 1, 1)), all(cell(1, 0), false, 0)},
		"a slab on itself, by Across":    {pattern(2, 1, 0, slab(0, 0, 3, 1)), all(cell(0, 0), true, 0)},
		"a slab on itself, by Down":      {pattern(1, 2, 0, slab(0, 1, 1, 3)), all(cell(0, 1), true, 0)},
		"a slab on itself, by Slide":     {pattern(4, 1, 3, slab(0, 0, 2, 2)), all(cell(1, 0), true, 0)},
		"covered by many":                {pattern(1, 1, 0, slab(0, 0, 12, 12)), all(cell(0, 0), true, 0)},
		"256 times, not 0 times":         {pattern(1, 1, 0, slab(0, 0, 8, 8)), all(cell(0, 0), true, 0)},
		"as many cells, but one twice":   {pattern(2, 1, 0, slab(0, 0, 1, 2)), all(cell(0, 0), true, 0)},
		"the same with a slide covers":   {pattern(2, 1, 1, slab(0, 0, 1, 2)), all(cell(0, 0), false, 6)},
		"none first, then twice":         {pattern(3, 1, 0, slab(1, 0, 1, 1), slab(2, 0, 1, 2)), all(cell(0, 0), false, 0)},
		"ordered by Y":                   {pattern(2, 2, 0, slab(0, 0, 2, 1), slab(1, 1, 1, 1)), all(cell(0, 1), false, 0)},
		"from a slab to the north":       {pattern(2, 2, 1, slab(0, 1, 2, 2)), all(cell(0, 0), false, 6)},
		"one that comes home far around": {longPlane(), all(cell(0, 0), false, 6)},
	} {
		check(t, "FirstGap: "+name, all(impl.FirstGap(c.p)), c.want)
	}
	check(t, "256 times", all(impl.FirstGap(pattern(1, 1, 0, slab(0, 0, 12, 12)))), "[{0 0} true 0]")
}

func TestPartAt(t *testing.T) {
	for i, p := range somePlanes() {
		for _, at := range farPlaces() {
			x, y := min(at[0], 997), min(at[1], 997)
			w := windowOf(p, x, y, 4, 4)
			for dy := range 4 {
				for dx := range 4 {
					got := all(impl.PartAt(p, int64(x+dx), int64(y+dy)))
					check(t, fmt.Sprint("PartAt of ", i, " at ", x+dx, y+dy), got, all(w.at(x+dx, y+dy).index, 0))
				}
			}
		}
	}
	row := func(p impl.Pattern, y int64) string {
		s := ""
		for x := int64(-4); x < 4; x++ {
			part, _ := impl.PartAt(p, x, y)
			s += fmt.Sprint(part)
		}
		return s
	}
	p := pattern(3, 2, 1, slab(0, 0, 1, 2), slab(1, 0, 2, 1), slab(1, 1, 1, 1), slab(2, 1, 1, 1))
	check(t, "rows to the south slide to the east", all(row(p, -2), row(p, -1), row(p, 0), row(p, 1), row(p, 2), row(p, 3)),
		all("01101101", "02302302", "10110110", "30230230", "11011011", "23023023"))
}

// Promise 5: the plane is the same when it is moved by a vector.
func TestPlaneIsTheSameMovedByVectors(t *testing.T) {
	for i, p := range somePlanes() {
		for _, n := range [][2]int64{{1, 0}, {0, 1}, {-1, 0}, {0, -1}, {3, -5}, {-4, 7}, {20, 20}, {-20, -20}} {
			x := n[0]*int64(p.Across) + n[1]*int64(p.Slide)
			y := n[1] * int64(p.Down)
			name := fmt.Sprint(" of ", i, " by ", x, y)
			check(t, "RepeatsBy"+name, all(impl.RepeatsBy(p, x, y)), "[true 0]")
			for _, at := range [][2]int64{{0, 0}, {5, -3}, {-11, 17}} {
				check(t, "PartAt"+name, all(impl.PartAt(p, at[0]+x, at[1]+y)), all(impl.PartAt(p, at[0], at[1])))
				check(t, "LayPattern"+name, all(impl.LayPattern(p, 7, 8, at[0]+x, at[1]+y)), all(impl.LayPattern(p, 7, 8, at[0], at[1])))
				check(t, "CutsIn"+name, all(impl.CutsIn(p, 7, 8, at[0]+x, at[1]+y)), all(impl.CutsIn(p, 7, 8, at[0], at[1])))
				check(t, "WasteIn"+name, all(impl.WasteIn(p, 7, 8, at[0]+x, at[1]+y)), all(impl.WasteIn(p, 7, 8, at[0], at[1])))
			}
		}
	}
}

// TestSquaresCutOut compares all functions that cut out squares.
func TestSquaresCutOut(t *testing.T) {
	d := dice(14)
	limits := 0
	for i, p := range somePlanes() {
		for _, at := range farPlaces() {
			wide, high := 1+d.below(12), 1+d.below(12)
			x, y := at[0], at[1]
			name := fmt.Sprint(" of ", i, ", ", wide, " by ", high, " at ", x, y)
			calls := placeCalls()[1:5]
			out := cutFrom(p, wide, high, x, y)
			wants := []any{square(int8(wide), int8(high), out.laid...), out.cuts, out.whole, out.waste}
			for k, c := range calls {
				want := all(wants[k], 0)
				if len(out.laid) > 60 {
					limits++
					want = coded(c.zeros, 3)
				}
				check(t, c.name+name, c.call(p, int64(wide), int64(high), int64(x), int64(y)), want)
			}
		}
	}
	if limits < 100 {
		t.Errorf("only %d calls came to the limit", limits)
	}
}

// Promise 2, of squares that are cut out: the slabs that are whole and those
// that are cut fill a square, and it is valid.
func TestSlabsFillTheSquare(t *testing.T) {
	for i, p := range somePlanes() {
		for _, side := range []int64{1, 3, 7} {
			name := fmt.Sprint(" of ", i, ", side ", side)
			q, code := impl.LayPattern(p, side, side, -3, 4)
			check(t, "code"+name, code, 0)
			check(t, "valid"+name, impl.ValidSquare(q), true)
			check(t, "filled"+name, all(impl.LaidArea(q)), all(side*side, 0))
			cuts, _ := impl.CutsIn(p, side, side, -3, 4)
			whole, _ := impl.WholeSlabs(p, side, side, -3, 4)
			check(t, "whole and cut"+name, len(cuts)+int(whole), len(q.Slabs))
		}
	}
}

func TestSlabsAtEdges(t *testing.T) {
	great := pattern(8, 8, 0, slab(0, 0, 8, 8))
	check(t, "a slab that is just whole", all(impl.LayPattern(great, 8, 8, 0, 0)), all(square(8, 8, slab(0, 0, 8, 8)), 0))
	check(t, "it is not cut", all(impl.CutsIn(great, 8, 8, 8, -16)), "[[] 0]")
	check(t, "it is whole", all(impl.WholeSlabs(great, 8, 8, 8, -16)), "[1 0]")
	check(t, "it has no waste", all(impl.WasteIn(great, 8, 8, 8, -16)), "[0 0]")
	check(t, "cut at all sides", all(impl.LayPattern(great, 1, 1, 4, 4)), all(square(1, 1, slab(0, 0, 1, 1)), 0))
	check(t, "the waste of one", all(impl.WasteIn(great, 1, 1, 4, 4)), "[63 0]")
	check(t, "a slab in four parts", all(impl.CutsIn(great, 2, 2, -1, 7)), "[[{0 0 1 1} {1 0 1 1} {0 1 1 1} {1 1 1 1}] 0]")
	check(t, "each one of a slab of its own", all(impl.WasteIn(great, 2, 2, -1, 7)), "[252 0]")
	check(t, "two sides of one slab alike", all(impl.LayPattern(great, 9, 1, 1, 0)), all(square(9, 1, slab(0, 0, 7, 1), slab(7, 0, 2, 1)), 0))
	p := pattern(3, 2, 0, slab(0, 0, 3, 1), slab(0, 1, 1, 1), slab(1, 1, 2, 1))
	check(t, "the order of parts", all(impl.LayPattern(p, 3, 2, 2, 1)), all(square(3, 2, slab(0, 0, 1, 1), slab(1, 0, 1, 1), slab(2, 0, 1, 1), slab(0, 1, 1, 1), slab(1, 1, 2, 1)), 0))
	check(t, "a high slab, far to the south", all(impl.LayPattern(longPlane(), 1, 12, 0, 10)), all(square(1, 12, slab(0, 0, 1, 2), slab(0, 2, 1, 4), slab(0, 6, 1, 6)), 0))
}

// TestLimitOfSlabs has squares with 60 slabs, and with more.
func TestLimitOfSlabs(t *testing.T) {
	p := tiles()
	for _, c := range placeCalls() {
		if !c.sides {
			continue
		}
		got := c.call(p, 12, 5, -3, 8)
		check(t, c.name+", 60 slabs", got[len(got)-1], 0)
		got = c.call(p, 6, 10, 3, -8)
		check(t, c.name+", 60 slabs", got[len(got)-1], 0)
		check(t, c.name+", 61 slabs or more", c.call(pattern(8, 1, 5, manySlabs(8)...), 8, 8, 0, 0), coded(c.zeros, 3))
		check(t, c.name+", 72 slabs", c.call(p, 12, 6, 0, 0), coded(c.zeros, 3))
		check(t, c.name+", 144 slabs", c.call(p, 12, 12, 0, 0), coded(c.zeros, 3))
	}
	q, _ := impl.LayPattern(p, 12, 5, 0, 0)
	check(t, "60 slabs", all(len(q.Slabs), impl.ValidSquare(q)), "[60 true]")
}

// TestLimitOfOneStart has squares with more than 60 slabs for some starts alone.
func TestLimitOfOneStart(t *testing.T) {
	for name, p := range map[string]impl.Pattern{
		"the first start": pattern(3, 1, 0, slab(0, 0, 1, 1), slab(1, 0, 2, 1)),
		"a later start":   pattern(3, 1, 0, slab(0, 0, 2, 1), slab(2, 0, 1, 1)),
	} {
		counts := []int{}
		for x := range 3 {
			counts = append(counts, len(cutFrom(p, 11, 8, x, 0).laid))
		}
		if slices.Min(counts) > 60 || slices.Max(counts) <= 60 {
			t.Fatalf("%s: %v", name, counts)
		}
		check(t, "BestStart, "+name, all(impl.BestStart(p, 11, 8)), "[0 0 0 3]")
		check(t, "FewestCuts, "+name, all(impl.FewestCuts(p, 11, 8)), "[0 0 0 3]")
		for x, n := range counts {
			_, code := impl.WasteIn(p, 11, 8, int64(x), 0)
			check(t, "WasteIn, "+name, code == impl.ErrLimit, n > 60)
		}
	}
}

// Promise 6: no start wastes less than the best one; it is the first one.
func TestBestStarts(t *testing.T) {
	d := dice(15)
	later, tied := 0, 0
	for i, p := range somePlanes() {
		for range 2 {
			wide, high := 1+d.below(9), 1+d.below(9)
			name := fmt.Sprint(" of ", i, ", ", wide, " by ", high)
			best, fewest := []any{}, []any{}
			limit := false
			least, few := math.MaxInt, math.MaxInt
			for y := range int(p.Down) {
				for x := range int(p.Across) {
					out := cutFrom(p, wide, high, x, y)
					limit = limit || len(out.laid) > 60
					if out.waste == least {
						tied++
					}
					if out.waste < least {
						least, best = out.waste, all(x, y, out.waste, 0)
					}
					if len(out.cuts) < few {
						few, fewest = len(out.cuts), all(x, y, len(out.cuts), 0)
					}
				}
			}
			if limit {
				best, fewest = all(0, 0, 0, 3), all(0, 0, 0, 3)
			} else if best[0] != 0 || best[1] != 0 {
				later++
			}
			check(t, "BestStart"+name, all(impl.BestStart(p, int64(wide), int64(high))), best)
			check(t, "FewestCuts"+name, all(impl.FewestCuts(p, int64(wide), int64(high))), fewest)
		}
	}
	if later < 50 || tied < 50 {
		t.Errorf("only %d best starts are not the first, and %d are not alone", later, tied)
	}
}

// Promise 6: no start wastes less, wherever it is.
func TestNoStartWastesLess(t *testing.T) {
	for i, p := range somePlanes() {
		if i%5 > 0 {
			continue
		}
		x, y, waste, code := impl.BestStart(p, 5, 6)
		check(t, fmt.Sprint("the waste told of ", i), all(waste, code), all(impl.WasteIn(p, 5, 6, x, y)))
		fewX, fewY, few, _ := impl.FewestCuts(p, 5, 6)
		cuts, _ := impl.CutsIn(p, 5, 6, fewX, fewY)
		check(t, fmt.Sprint("the cuts told of ", i), few, len(cuts))
		for startY := int64(-9); startY < 9; startY++ {
			for startX := int64(-9); startX < 9; startX++ {
				other, _ := impl.WasteIn(p, 5, 6, startX, startY)
				cuts, _ := impl.CutsIn(p, 5, 6, startX, startY)
				if other < waste || int64(len(cuts)) < few {
					t.Fatalf("%v: at %d, %d there are %d and %d, not %d and %d", p, startX, startY, other, len(cuts), waste, few)
				}
			}
		}
	}
}

func TestStartsOfSeveral(t *testing.T) {
	check(t, "all are as good", all(impl.BestStart(tiles(), 3, 3)), "[0 0 0 0]")
	p := pattern(3, 3, 0, slab(1, 1, 3, 3))
	check(t, "at the slab", all(impl.BestStart(p, 3, 3)), "[1 1 0 0]")
	check(t, "fewest at the slab", all(impl.FewestCuts(p, 3, 3)), "[1 1 0 0]")
	p = pattern(4, 2, 0, slab(0, 0, 2, 1), slab(2, 0, 2, 1), slab(1, 1, 2, 1), slab(3, 1, 2, 1))
	check(t, "by y, and then by x", all(impl.BestStart(p, 2, 1)), "[0 0 0 0]")
	check(t, "x goes first", all(impl.BestStart(pattern(2, 2, 0, slab(1, 0, 2, 1), slab(0, 1, 2, 1)), 2, 1)), "[1 0 0 0]")
	p = pattern(6, 1, 0, slab(0, 0, 1, 1), slab(1, 0, 5, 1))
	check(t, "least waste", all(impl.BestStart(p, 4, 1)), "[1 0 1 0]")
	check(t, "fewest cuts", all(impl.FewestCuts(p, 4, 1)), "[0 0 1 0]")
}

func TestRepeatsByAndPeriodOf(t *testing.T) {
	short := 0
	for i, p := range somePlanes() {
		name := fmt.Sprint(" of ", i)
		for y := -9; y <= 9; y++ {
			for x := -9; x <= 9; x++ {
				check(t, fmt.Sprint("RepeatsBy", name, " by ", x, y), all(impl.RepeatsBy(p, int64(x), int64(y))), all(isSameMoved(p, x, y), 0))
			}
		}
		for _, at := range farPlaces() {
			check(t, fmt.Sprint("RepeatsBy", name, " by ", at), all(impl.RepeatsBy(p, int64(at[0]), int64(at[1]))), all(isSameMoved(p, at[0], at[1]), 0))
		}
		east, south := periods(p)
		check(t, "PeriodOf"+name, all(impl.PeriodOf(p)), all(east, south, 0))
		if east < int(p.Across) || p.Slide == 0 && south < int(p.Down) {
			short++
		}
	}
	if short < 20 {
		t.Errorf("only %d planes have periods less than their vectors", short)
	}
}

func TestRepeatsOfSomeKinds(t *testing.T) {
	four := pattern(4, 1, 0, slab(0, 0, 2, 1), slab(2, 0, 2, 1))
	check(t, "slabs upon others", all(impl.RepeatsBy(four, 2, 0)), "[true 0]")
	check(t, "slabs between others", all(impl.RepeatsBy(four, 1, 0)), "[false 0]")
	check(t, "periods less than the vectors", all(impl.PeriodOf(four)), "[2 1 0]")
	other := pattern(4, 1, 0, slab(0, 0, 1, 1), slab(1, 0, 1, 1), slab(2, 0, 2, 1))
	check(t, "first cells, but other sides", all(impl.RepeatsBy(other, 2, 0)), "[false 0]")
	check(t, "no less period", all(impl.PeriodOf(other)), "[4 1 0]")
	check(t, "no move at all", all(impl.RepeatsBy(other, 0, 0)), "[true 0]")
	far := pattern(8, 8, 1, slab(0, 0, 8, 8))
	check(t, "the greatest period", all(impl.PeriodOf(far)), "[8 64 0]")
	check(t, "by both vectors", all(impl.RepeatsBy(far, 1, 8)), "[true 0]")
	check(t, "a slide the other way", all(impl.RepeatsBy(far, -1, 8)), "[false 0]")
	check(t, "a slide back", all(impl.RepeatsBy(far, -1, -8)), "[true 0]")
	check(t, "the least period", all(impl.PeriodOf(tiles())), "[1 1 0]")
	check(t, "by any numbers", all(impl.RepeatsBy(tiles(), -1000, 999)), "[true 0]")
}

func TestLongJoint(t *testing.T) {
	kinds := map[[2]bool]int{}
	for i, p := range somePlanes() {
		want := [2]bool{hasLineIn(p, true), hasLineIn(p, false)}
		kinds[want]++
		check(t, fmt.Sprint("LongJoint of ", i), all(impl.LongJoint(p)), all(want[0], want[1], 0))
	}
	for _, kind := range [][2]bool{{true, true}, {true, false}, {false, true}, {false, false}} {
		if kinds[kind] < 5 {
			t.Errorf("only %d planes have the lines %v", kinds[kind], kind)
		}
	}
	for name, c := range map[string]struct {
		p    impl.Pattern
		want string
	}{
		"bricks":                    {bricks(), "[true false 0]"},
		"bricks that stand":         {pattern(2, 1, 1, slab(0, 0, 1, 2)), "[false true 0]"},
		"one great slab":            {pattern(8, 8, 0, slab(5, 5, 8, 8)), "[true true 0]"},
		"one great slab that slid":  {pattern(8, 8, 4, slab(5, 5, 8, 8)), "[true false 0]"},
		"slabs alike as one line":   {pattern(4, 1, 2, slab(0, 0, 2, 1), slab(2, 0, 2, 1)), "[true true 0]"},
		"a slide of no divisor":     {pattern(6, 1, 4, slab(1, 0, 2, 1), slab(3, 0, 2, 1), slab(5, 0, 2, 1)), "[true true 0]"},
		"slabs of 1 by 1":           {tiles(), "[true true 0]"},
		"a line at the last place":  {pattern(1, 3, 0, slab(0, 2, 1, 3)), "[true true 0]"},
		"lines of slabs in a wheel": {pattern(5, 1, 2, slab(0, 0, 2, 2), slab(2, 0, 1, 1)), "[false false 0]"},
	} {
		check(t, "LongJoint: "+name, all(impl.LongJoint(c.p)), c.want)
	}
}

func TestMirrorPattern(t *testing.T) {
	for i, p := range somePlanes() {
		name := fmt.Sprint("mirrored: ", i)
		got, code := impl.MirrorPattern(p)
		check(t, name, all(code, got.Across, got.Down, (got.Slide+p.Slide)%p.Across, isPatternRight(got), isPlane(got)), all(0, p.Across, p.Down, 0, true, true))
		one, two := windowOf(p, -20, -5, 40, 20), windowOf(got, -20, -5, 40, 20)
		for y := -5; y < 15; y++ {
			for x := -20; x < 20; x++ {
				a, b := one.at(x, y), two.at(-1-x, y)
				check(t, name, all(b.x, b.y, b.wide, b.high), all(-a.x-a.wide, a.y, a.wide, a.high))
			}
		}
		check(t, "twice "+name, all(impl.MirrorPattern(got)), all(p, 0))
	}
	p := pattern(4, 2, 1, slab(0, 0, 3, 1), slab(3, 0, 1, 2), slab(0, 1, 2, 1), slab(2, 1, 1, 1))
	check(t, "the order, and the slide", all(impl.MirrorPattern(p)), all(pattern(4, 2, 3, slab(0, 0, 1, 2), slab(1, 0, 3, 1), slab(1, 1, 1, 1), slab(2, 1, 2, 1)), 0))
}

func TestDoublePattern(t *testing.T) {
	limits := 0
	for i, p := range somePlanes() {
		name := fmt.Sprint("doubled: ", i)
		got, code := impl.DoublePattern(p)
		if p.Across > 4 || len(p.Slabs) > 6 {
			limits++
			check(t, name, all(got, code), all(noPattern, 3))
			continue
		}
		want := pattern(2*p.Across, p.Down, p.Slide, p.Slabs...)
		for _, s := range p.Slabs {
			want.Slabs = append(slices.Clip(want.Slabs), slab(s.X+p.Across, s.Y, s.Wide, s.High))
		}
		slices.SortFunc(want.Slabs, func(a, b impl.Slab) int { return place(a) - place(b) })
		check(t, name, all(got, code), all(want, 0))
		check(t, "the plane "+name, cutFrom(got, 12, 12, -9, 4), cutFrom(p, 12, 12, -9, 4))
	}
	if limits < 50 {
		t.Errorf("only %d patterns came to the limit", limits)
	}
	code := func(p impl.Pattern) int64 {
		_, code := impl.DoublePattern(p)
		return code
	}
	check(t, "Across that is reached", code(pattern(4, 8, 3, slab(0, 0, 4, 8))), 0)
	check(t, "Across 10", code(pattern(5, 1, 0, slab(0, 0, 5, 1))), 3)
	check(t, "12 slabs", code(pattern(3, 2, 0, slab(0, 0, 1, 1), slab(1, 0, 1, 1), slab(2, 0, 1, 1), slab(0, 1, 1, 1), slab(1, 1, 1, 1), slab(2, 1, 1, 1))), 0)
	check(t, "14 slabs", code(pattern(1, 7, 0, slab(0, 0, 1, 1), slab(0, 1, 1, 1), slab(0, 2, 1, 1), slab(0, 3, 1, 1), slab(0, 4, 1, 1), slab(0, 5, 1, 1), slab(0, 6, 1, 1))), 3)
}

func TestPatternText(t *testing.T) {
	for i, p := range slices.Concat(somePlanes(), somePatterns()) {
		want := patternText(p)
		check(t, fmt.Sprint("PatternText of ", i), impl.PatternText(p), want)
		got, code := impl.ReadPattern(want)
		check(t, fmt.Sprint("ReadPattern of ", i), all(got, code), all(p, 0))
		check(t, fmt.Sprint("the same as read: ", i), impl.SamePattern(got, p), true)
	}
	check(t, "all parts of a text", impl.PatternText(pattern(8, 7, 6, slab(1, 2, 11, 10), slab(0, 3, 9, 12))), "8 7 6\n1,2 11x10\n0,3 9x12\n")
}

func TestReadPatternOfNoText(t *testing.T) {
	for _, s := range []string{
		"", "\n", "\n\n", " ", "2", "2\n", "2 1\n", "2 1 1", "2 1 1\n", "2 1 1\n\n", "2 1\n0,0 2x1\n", "2 1 1 1\n0,0 2x1\n",
		"2 1 1\n0,0 2x1", "2 1 1\n0,0 2x1\n\n", "\n2 1 1\n0,0 2x1\n", "2 1 1\n\n0,0 2x1\n", " 2 1 1\n0,0 2x1\n", "2 1 1 \n0,0 2x1\n",
		"2  1 1\n0,0 2x1\n", "2\t1 1\n0,0 2x1\n", "2 1 1\r\n0,0 2x1\r\n", "2 1 1\n0,0 2x1 \n", "2 1 1\n 0,0 2x1\n", "2 1 1\n0, 0 2x1\n",
		"2 1 1\n0 0 2x1\n", "2 1 1\n0,0,2x1\n", "2 1 1\n0,0 2 1\n", "2 1 1\n0,0 2X1\n", "2 1 1\n0,0 2x1x\n", "2 1 1\n0,0 2x1,\n", "2,1,1\n0,0 2x1\n", "2x1x1\n0,0 2x1\n",
		"2 1 1\n0,0 2\n", "2 1 1\n0,0\n", "2 1 1\n0,0 2x1x1\n", "2 1 1\n0,0 x1\n", "2 1 1\n,0 2x1\n", "2 1 1\n0,0 2x\n", "a 1 1\n0,0 2x1\n", "2 1 1\na,0 2x1\n",
		"02 1 1\n0,0 2x1\n", "2 1 01\n0,0 2x1\n", "+2 1 1\n0,0 2x1\n", "2 1 1\n00,0 2x1\n", "2 1 1\n-0,0 2x1\n", "2 1 1\n+0,0 2x1\n", "2 1 1\n0,0 02x1\n", "2 1 1\n0,0 2x+1\n", "2 1 1\n0,0 0x2x1\n",
		"2.0 1 1\n0,0 2x1\n", "0x2 1 1\n0,0 2x1\n", "2_0 1 1\n0,0 2x1\n", "258 1 1\n0,0 2x1\n", "2 1 1\n256,0 2x1\n", "2 1 1\n0,0 258x1\n", "18446744073709551618 1 1\n0,0 2x1\n",
		"-2 1 1\n0,0 2x1\n", "0 1 0\n0,0 2x1\n", "9 1 0\n0,0 9x1\n", "1 9 0\n0,0 1x9\n", "2 1 2\n0,0 2x1\n", "2 1 -1\n0,0 2x1\n", "2 1 1\n2,0 2x1\n", "2 1 1\n0,1 2x1\n", "2 1 1\n-1,0 2x1\n",
		"2 1 1\n0,0 0x1\n", "2 1 1\n0,0 2x13\n", "2 1 1\n0,0 13x1\n", "2 1 1\n1,0 1x1\n0,0 1x1\n", "2 1 1\n0,0 1x1\n0,0 1x1\n", "2 1 1\n0,0 2x1\n\x00", "2 1 1\n0,0 2x1\nx", "２ 1 1\n0,0 2x1\n", "\xff 1 1\n0,0 2x1\n",
	} {
		if isPatternText(s) {
			t.Fatalf("isPatternText of %q", s)
		}
		check(t, fmt.Sprintf("ReadPattern of %q", s), all(impl.ReadPattern(s)), all(noPattern, 5))
	}
	for name, p := range notPatterns() {
		check(t, "ReadPattern of "+name, all(impl.ReadPattern(patternText(p))), all(noPattern, 5))
	}
	longest := pattern(8, 8, 7, manySlabs(12)...)
	for i := range longest.Slabs {
		longest.Slabs[i].Wide, longest.Slabs[i].High = 12, 12
	}
	check(t, "as long as can be", all(impl.ReadPattern(patternText(longest))), all(longest, 0))
	check(t, "one that does not cover the plane", readPattern(t, "2 1 0", "0,0 1x1"), pattern(2, 1, 0, slab(0, 0, 1, 1)))
}

// TestReadPatternOfChangedTexts changes single bytes of texts, takes them away,
// and adds some.
func TestReadPatternOfChangedTexts(t *testing.T) {
	d := dice(16)
	good := 0
	for _, p := range slices.Concat(somePlanes(), somePatterns()) {
		from := patternText(p)
		for range 40 {
			s := changed(&d, from, "0123456789 ,x\n-+")
			good += checkRead(t, s, isPatternText(s), impl.ReadPattern, impl.PatternText)
		}
	}
	if good < 1000 {
		t.Errorf("only %d texts were good", good)
	}
}

// Promise 1: no function modifies its arguments, and all results are equal for
// equal arguments, in memory of their own.
func TestPatternsArePure(t *testing.T) {
	kept := slab(7, 7, 7, 7)
	for i, p := range slices.Concat(somePlanes(), openPatterns()) {
		if i%6 > 0 && i > 12 {
			continue
		}
		p.Slabs = roomy(p.Slabs, kept)
		other := pattern(p.Across, p.Down, p.Slide, roomy(p.Slabs, kept)...)
		read := patternText(p)
		for name, call := range map[string]func() []any{
			"ValidPattern":  func() []any { return all(impl.ValidPattern(p)) },
			"SamePattern":   func() []any { return all(impl.SamePattern(p, other)) },
			"CoversPlane":   func() []any { return all(impl.CoversPlane(p)) },
			"FirstGap":      func() []any { return all(impl.FirstGap(p)) },
			"AreaOfPattern": func() []any { return all(impl.AreaOfPattern(p)) },
			"PatternText":   func() []any { return all(impl.PatternText(p)) },
			"ReadPattern":   func() []any { return all(impl.ReadPattern(read)) },
		} {
			checkPure(t, fmt.Sprint(name, " of ", i), all(p, other), call)
		}
		for _, c := range placeCalls() {
			checkPure(t, fmt.Sprint(c.name, " of ", i), all(p), func() []any { return c.call(p, 5, 6, -7, 8) })
		}
		for _, c := range coveredCalls() {
			checkPure(t, fmt.Sprint(c.name, " of ", i), all(p), func() []any { return c.call(p) })
		}
	}
}

// Promise 1: starts that are tried at the same time give equal results, however
// often, and by however many callers.
func TestStartsAreEqualEachTime(t *testing.T) {
	planes := somePlanes()
	want := make([]string, len(planes))
	for i, p := range planes {
		want[i] = fmt.Sprint(all(impl.BestStart(p, 7, 5)), all(impl.FewestCuts(p, 7, 5)))
	}
	done := make(chan string)
	for range 8 {
		go func() {
			for i, p := range planes {
				if got := fmt.Sprint(all(impl.BestStart(p, 7, 5)), all(impl.FewestCuts(p, 7, 5))); got != want[i] {
					done <- fmt.Sprint("plane ", i, ": got ", got, ", want ", want[i])
					return
				}
			}
			done <- ""
		}()
	}
	for range 8 {
		if wrong := <-done; wrong != "" {
			t.Error(wrong)
		}
	}
}

// Promise 1: functions return for great arguments, too.
func TestPatternsOfManySlabs(t *testing.T) {
	many := pattern(8, 8, 0, make([]impl.Slab, 1000000)...)
	check(t, "ValidPattern", impl.ValidPattern(many), false)
	check(t, "SamePattern", impl.SamePattern(many, pattern(8, 8, 0, make([]impl.Slab, 1000000)...)), true)
	check(t, "PatternText", impl.PatternText(many), "")
	check(t, "AreaOfPattern", all(impl.AreaOfPattern(many)), "[0 1]")
	check(t, "BestStart", all(impl.BestStart(many, 3, 3)), "[0 0 0 1]")
	for _, s := range []string{"2", "\n", "2 1 1\n", "2,", " ", "0,0 2x1\n", "x", "\xff"} {
		long := strings.Repeat(s, 1000000/len(s))
		check(t, "ReadPattern of much", all(impl.ReadPattern(long)), all(noPattern, 5))
		check(t, "ReadPattern of much behind", all(impl.ReadPattern("2 1 1\n0,0 2x1\n"+long)), all(noPattern, 5))
	}
}

// TestExampleOfPatterns is the example of the document.
func TestExampleOfPatterns(t *testing.T) {
	p := readPattern(t, "2 1 1", "0,0 2x1")
	check(t, "pattern", p, bricks())
	check(t, "covers", all(impl.CoversPlane(p)), "[true 0]")
	q, _ := impl.LayPattern(p, 3, 2, 0, 0)
	check(t, "square", impl.SquareText(q), text("aab", "cdd"))
	check(t, "cuts", all(impl.CutsIn(p, 3, 2, 0, 0)), "[[{2 0 1 1} {0 1 1 1}] 0]")
	check(t, "waste", all(impl.WasteIn(p, 3, 2, 0, 0)), "[2 0]")
	check(t, "best", all(impl.BestStart(p, 3, 2)), "[0 0 2 0]")
	check(t, "periods", all(impl.PeriodOf(p)), "[2 2 0]")
	check(t, "long joints", all(impl.LongJoint(p)), "[true false 0]")
}
