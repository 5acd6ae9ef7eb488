package tests

import (
	"fmt"
	"math"
	"slices"
	"strings"
	"testing"

	"loop.example/g01383/impl"
)

func isJointCall(q impl.Square, a, b impl.Cell) liftCall {
	return liftCall{"IsJoint", func() []any { return all(impl.IsJoint(q, a, b)) }, all(false)}
}

func countCall(q impl.Square) liftCall {
	return liftCall{"CountJoints", func() []any { return all(impl.CountJoints(q)) }, all(0)}
}

func jointsAtCall(q impl.Square, at impl.Cell) liftCall {
	return liftCall{"JointsAt", func() []any { return all(impl.JointsAt(q, at)) }, all("[]")}
}

func growCall(q impl.Square, at impl.Cell, way, years int64) liftCall {
	return liftCall{"GrowCrack", func() []any { return all(impl.GrowCrack(q, at, way, years)) }, all("[]")}
}

func growAllCall(q impl.Square, starts []impl.Cell, ways []int64, years int64) liftCall {
	return liftCall{"GrowAll", func() []any { return all(impl.GrowAll(q, starts, ways, years)) }, all("[]")}
}

func longestCall(q impl.Square, years int64) liftCall {
	return liftCall{"LongestCrack", func() []any { return all(impl.LongestCrack(q, years)) }, all(impl.Cell{}, 0, 0)}
}

func touchedCall(q impl.Square, crack []impl.Cell) liftCall {
	return liftCall{"TouchedBy", func() []any { return all(impl.TouchedBy(q, crack)) }, all("[]")}
}

func meetCall(q impl.Square, a, b []impl.Cell) liftCall {
	return liftCall{"MeetOf", func() []any { return all(impl.MeetOf(q, a, b)) }, all(impl.Cell{})}
}

// tripCalls returns the functions that ask for a limit, and not for rates.
func tripCalls(q impl.Square, levels []int64, limit int64, list []int64) []liftCall {
	return []liftCall{
		{"TripEdges", func() []any { return all(impl.TripEdges(q, levels, limit)) }, all("[]")},
		{"CoversTrips", func() []any { return all(impl.CoversTrips(q, levels, limit, list)) }, all(false)},
		{"FewestExchanged", func() []any { return all(impl.FewestExchanged(q, levels, limit)) }, all("[]")},
		{"GreedyExchanged", func() []any { return all(impl.GreedyExchanged(q, levels, limit)) }, all("[]")},
		{"PairsBound", func() []any { return all(impl.PairsBound(q, levels, limit)) }, all(0)},
	}
}

func worstCall(q impl.Square, levels []int64) liftCall {
	return liftCall{"WorstTrip", func() []any { return all(impl.WorstTrip(q, levels)) }, all([2]int64{}, 0)}
}

func afterCall(q impl.Square, levels, rates []int64, years int64) liftCall {
	return liftCall{"LevelsAfter", func() []any { return all(impl.LevelsAfter(q, levels, rates, years)) }, all("[]")}
}

func firstCall(q impl.Square, levels, rates []int64, limit int64) liftCall {
	return liftCall{"FirstTrip", func() []any { return all(impl.FirstTrip(q, levels, rates, limit)) }, all(0)}
}

// levelCalls returns all functions with levels.
func levelCalls(q impl.Square, levels, rates []int64, limit, years int64, list []int64) []liftCall {
	return append(tripCalls(q, levels, limit, list), worstCall(q, levels), afterCall(q, levels, rates, years), firstCall(q, levels, rates, limit))
}

// beyond returns numbers that are not 0 to most.
func beyond(most int64) []int64 {
	return []int64{-1, most + 1, -most, most + 256, 1 << 32, 1<<32 + most, math.MinInt64, math.MaxInt64}
}

// threeSlabs has the rows of the example.
func threeSlabs() impl.Square {
	return square(3, 3, slab(0, 0, 2, 1), slab(2, 0, 1, 2), slab(0, 1, 2, 2))
}

func TestLimitsOfCracks(t *testing.T) {
	check(t, "limits", all(impl.MaxYears, impl.MaxLevel, impl.MaxRate, impl.MaxTrips, impl.MaxCracks), "[60 100 10 12 8]")
	check(t, "ways", all(impl.DiNorth, impl.DiEast, impl.DiSouth, impl.DiWest), "[0 1 2 3]")
}

// TestCracksOfNotValidSquares calls each function with squares that are not
// valid, and with other arguments that are wrong as well.
func TestCracksOfNotValidSquares(t *testing.T) {
	for name, q := range notValid() {
		levels := make([]int64, len(q.Slabs))
		for _, at := range []impl.Cell{cell(0, 0), cell(-1, 0), cell(127, 127)} {
			checkCode(t, name, 1, isJointCall(q, at, cell(0, 0)), isJointCall(q, cell(0, 0), at), jointsAtCall(q, at))
			checkCode(t, name, 1, growCall(q, at, 0, 0), growCall(q, at, 4, 0), growCall(q, at, 0, 61))
			checkCode(t, name, 1, growAllCall(q, []impl.Cell{at}, []int64{0}, 0), growAllCall(q, []impl.Cell{at}, nil, -1), growAllCall(q, make([]impl.Cell, 9), make([]int64, 9), 0))
			checkCode(t, name, 1, touchedCall(q, []impl.Cell{at}), touchedCall(q, []impl.Cell{at, at}))
			checkCode(t, name, 1, meetCall(q, []impl.Cell{at}, nil), meetCall(q, nil, []impl.Cell{at, at}))
		}
		checkCode(t, name, 1, countCall(q), longestCall(q, 0), longestCall(q, 61), growAllCall(q, nil, nil, 0), touchedCall(q, nil), meetCall(q, nil, nil))
		checkCode(t, name, 1, levelCalls(q, levels, levels, 0, 0, nil)...)
		checkCode(t, name, 1, levelCalls(q, nil, nil, -1, 61, []int64{-1})...)
		check(t, name, all(impl.ValidLevels(q, levels), impl.ValidLevels(q, nil), impl.LevelsText(q, levels)), "[false false ]")
		for _, s := range []string{"", "0", levelsText(levels), "x"} {
			check(t, "ReadLevels: "+name, all(impl.ReadLevels(q, s)), "[[] 1]")
		}
	}
}

// TestJointsOfAllEdges looks at all pairs of points, most of which are no ends
// of an edge.
func TestJointsOfAllEdges(t *testing.T) {
	joints := 0
	for i, q := range crackSquares() {
		by, corners, count := ownersOf(q), cornersOf(q), 0
		for k, a := range corners {
			for m, b := range corners {
				if len(corners) > 40 && k*m%7 > 0 && !areBeside(a, b) {
					continue
				}
				is, code := impl.IsJoint(q, a, b)
				if code != impl.OK || is != by.isSeam(a, b) {
					t.Errorf("IsJoint of %d from %v to %v: %v, %d", i, a, b, is, code)
				}
				if is {
					count++
				}
			}
			check(t, fmt.Sprint("JointsAt of ", i, ", ", a), all(impl.JointsAt(q, a)), all(by.seamsAt(a), 0))
		}
		check(t, fmt.Sprint("CountJoints of ", i), all(impl.CountJoints(q)), all(count/2, 0))
		joints += count / 2
	}
	if joints < 4000 {
		t.Errorf("there were only %d joints", joints)
	}
}

func TestJointsOfSomeKinds(t *testing.T) {
	full := square(2, 2, slab(0, 0, 1, 1), slab(1, 0, 1, 1), slab(0, 1, 1, 1), slab(1, 1, 1, 1))
	for name, c := range map[string]struct {
		q     impl.Square
		count int
		at    impl.Cell
		ways  string
	}{
		"no slabs":              {square(12, 12), 0, cell(6, 6), "[]"},
		"one slab":              {square(2, 2, slab(0, 0, 2, 2)), 0, cell(1, 1), "[]"},
		"four slabs":            {full, 4, cell(1, 1), "[0 1 2 3]"},
		"at the north":          {full, 4, cell(1, 0), "[2]"},
		"at the east":           {full, 4, cell(2, 1), "[3]"},
		"at the south":          {full, 4, cell(1, 2), "[0]"},
		"at the west":           {full, 4, cell(0, 1), "[1]"},
		"in the first corner":   {full, 4, cell(0, 0), "[]"},
		"in the last corner":    {full, 4, cell(2, 2), "[]"},
		"slabs beside open":     {read(t, "a.b"), 0, cell(1, 0), "[]"},
		"slabs across":          {read(t, "a.", ".b"), 0, cell(1, 1), "[]"},
		"slabs across, and one": {read(t, "ab", ".c"), 2, cell(1, 1), "[0 1]"},
		"most slabs":            {gridSquare(60), 5*11 + 4*12, cell(11, 4), "[0 1 2 3]"},
		"above open cells":      {gridSquare(60), 5*11 + 4*12, cell(11, 5), "[0]"},
		"in the example":        {threeSlabs(), 4, cell(2, 1), "[0 2 3]"},
	} {
		check(t, "CountJoints: "+name, all(impl.CountJoints(c.q)), all(c.count, 0))
		check(t, "JointsAt: "+name, all(impl.JointsAt(c.q, c.at)), all(c.ways, 0))
	}
	for name, c := range map[string]struct {
		a, b impl.Cell
		want bool
	}{
		"to the east":           {cell(0, 1), cell(1, 1), true},
		"to the west":           {cell(1, 1), cell(0, 1), true},
		"to the south":          {cell(1, 0), cell(1, 1), true},
		"to the north":          {cell(1, 1), cell(1, 0), true},
		"along the edge":        {cell(0, 0), cell(1, 0), false},
		"along the other edge":  {cell(2, 1), cell(2, 2), false},
		"one point":             {cell(1, 1), cell(1, 1), false},
		"two joints":            {cell(0, 1), cell(2, 1), false},
		"two joints, north":     {cell(1, 2), cell(1, 0), false},
		"across":                {cell(0, 0), cell(1, 1), false},
		"across, back":          {cell(2, 0), cell(1, 1), false},
		"as a knight":           {cell(0, 1), cell(2, 2), false},
		"from corner to corner": {cell(0, 0), cell(2, 2), false},
	} {
		check(t, "IsJoint: "+name, all(impl.IsJoint(full, c.a, c.b)), all(c.want, 0))
	}
}

func TestRangeOfCorners(t *testing.T) {
	for _, q := range []impl.Square{threeSlabs(), square(1, 1), gridSquare(60), square(1, 12), square(12, 1, slab(0, 0, 12, 1))} {
		one, last := cell(0, 0), cell(q.Wide, q.High)
		for _, c := range notCorners(q) {
			name := fmt.Sprint("no point ", c)
			checkCode(t, name, 2, isJointCall(q, c, one), isJointCall(q, last, c), isJointCall(q, c, c), jointsAtCall(q, c))
			checkCode(t, name, 2, growCall(q, c, 0, 0), growCall(q, c, 0, 9), growAllCall(q, []impl.Cell{one, c}, []int64{0, 0}, 9))
			checkCode(t, name, 2, touchedCall(q, []impl.Cell{c}), touchedCall(q, []impl.Cell{one, c}), touchedCall(q, []impl.Cell{c, one}))
			checkCode(t, name, 2, meetCall(q, []impl.Cell{c}, nil), meetCall(q, nil, []impl.Cell{c}), meetCall(q, []impl.Cell{one}, []impl.Cell{one, c}))
		}
		for _, c := range []impl.Cell{one, last, cell(q.Wide, 0), cell(0, q.High)} {
			check(t, fmt.Sprint("a point ", c), all(impl.JointsAt(q, c)), "[[] 0]")
			check(t, fmt.Sprint("a point ", c), all(impl.GrowCrack(q, c, impl.DiWest, 60)), all([]impl.Cell{c}, 0))
		}
	}
}

// checkGrowing checks that a crack grows along joints, by one edge each year,
// and that it goes on as it has begun.
func checkGrowing(t *testing.T, name string, q impl.Square, at impl.Cell, way int64) {
	t.Helper()
	by := ownersOf(q)
	before := []impl.Cell{}
	for years := range int64(61) {
		crack, code := impl.GrowCrack(q, at, way, years)
		if code != impl.OK || len(crack) < 1 || len(crack) > int(years)+1 || crack[0] != at {
			t.Fatalf("GrowCrack%s, %d years: %v, %d", name, years, crack, code)
		}
		if len(crack) < len(before) || len(crack) > len(before)+1 || !slices.Equal(crack[:len(before)], before) {
			t.Errorf("GrowCrack%s was %v, and is %v behind %d years", name, before, crack, years)
		}
		if years > 1 && len(before) < int(years) && len(crack) > len(before) {
			t.Errorf("GrowCrack%s had stopped, and goes on behind %d years", name, years)
		}
		if n := len(crack); n > 1 && (!by.isSeam(crack[n-2], crack[n-1]) || slices.Contains(crack[:n-1], crack[n-1])) {
			t.Errorf("GrowCrack%s grows along no joint, or comes again: %v", name, crack)
		}
		before = crack
	}
	check(t, "GrowCrack"+name, before, by.crackFrom(at, way, 60))
}

// Promise 14: a crack only grows, and along joints.
func TestCracksOnlyGrowAlongJoints(t *testing.T) {
	d := dice(81)
	var lengths [61]int
	for i, q := range crackSquares() {
		by := ownersOf(q)
		for _, at := range cornersOf(q) {
			for way := range int64(4) {
				if d.below(10) == 0 && i%3 == 0 || len(q.Slabs) == 5 {
					checkGrowing(t, fmt.Sprint(" of ", i, " from ", at, ", ", way), q, at, way)
				}
				if d.below(8) > 0 {
					continue
				}
				years := int64(d.below(61))
				crack := by.crackFrom(at, way, years)
				lengths[len(crack)-1]++
				check(t, fmt.Sprint("GrowCrack of ", i, " from ", at, ", ", way, ", ", years), all(impl.GrowCrack(q, at, way, years)), all(crack, 0))
			}
		}
	}
	for long := range 9 {
		if lengths[long] < 20 {
			t.Errorf("only %d cracks had %d edges", lengths[long], long)
		}
	}
}

// TestCracksOfSomeKinds has the points of cracks behind many years.
func TestCracksOfSomeKinds(t *testing.T) {
	full, mill := gridSquare(60), windmill()
	toEast := way(0, 1, 1, 1, 2, 1, 3, 1, 4, 1, 5, 1, 6, 1, 7, 1, 8, 1, 9, 1, 10, 1, 11, 1, 12, 1)
	for name, c := range map[string]struct {
		q     impl.Square
		way   int64
		crack []impl.Cell
	}{
		"straight on, from edge to edge":      {full, impl.DiEast, toEast},
		"to the left at first":                {full, impl.DiSouth, toEast},
		"to the right at first":               {full, impl.DiNorth, toEast},
		"never back":                          {full, impl.DiWest, toEast[:1]},
		"straight on, to the north":           {full, impl.DiNorth, way(6, 4, 6, 3, 6, 2, 6, 1, 6, 0)},
		"straight on, to the south":           {full, impl.DiSouth, way(1, 3, 1, 4, 1, 5)},
		"straight on, to the west":            {full, impl.DiWest, way(3, 4, 2, 4, 1, 4, 0, 4)},
		"left ahead of right, to the north":   {read(t, "aa", "bc"), impl.DiNorth, way(1, 2, 1, 1, 0, 1)},
		"left ahead of right, to the west":    {read(t, "ab", "ac"), impl.DiWest, way(2, 1, 1, 1, 1, 2)},
		"left ahead of right, to the south":   {read(t, "ab", "cc"), impl.DiSouth, way(1, 0, 1, 1, 2, 1)},
		"left ahead of right, to the east":    {read(t, "ab", "cb"), impl.DiEast, way(0, 1, 1, 1, 1, 0)},
		"right, from north to east":           {read(t, ".a", "bc"), impl.DiNorth, way(1, 2, 1, 1, 2, 1)},
		"right, from east to south":           {read(t, "a.", "bc"), impl.DiEast, way(0, 1, 1, 1, 1, 2)},
		"right, from south to west":           {read(t, "ab", "c."), impl.DiSouth, way(1, 0, 1, 1, 0, 1)},
		"right, from west to north":           {read(t, "ab", ".c"), impl.DiWest, way(2, 1, 1, 1, 1, 0)},
		"left and right by turns":             {read(t, "ab.", "ccd"), impl.DiSouth, way(1, 0, 1, 1, 2, 1, 2, 2)},
		"a joint leads to a point before":     {mill, impl.DiSouth, way(1, 0, 1, 1, 1, 2, 2, 2, 2, 1)},
		"the same from the west":              {mill, impl.DiEast, way(0, 2, 1, 2, 2, 2, 2, 1, 1, 1)},
		"the same from the south":             {mill, impl.DiNorth, way(2, 3, 2, 2, 2, 1, 1, 1, 1, 2)},
		"the same from the east":              {mill, impl.DiWest, way(3, 1, 2, 1, 1, 1, 1, 2, 2, 2)},
		"left and out where that is straight": {mirrored(mill), impl.DiSouth, way(2, 0, 2, 1, 2, 2, 3, 2)},
		"none of the three":                   {read(t, "..a", "bcd"), impl.DiNorth, way(1, 2, 1, 1)},
		"no slabs":                            {square(12, 12), impl.DiEast, way(6, 6)},
		"one slab":                            {square(12, 12, slab(0, 0, 12, 12)), impl.DiSouth, way(6, 6)},
		"in the corner":                       {full, impl.DiEast, way(0, 0)},
		"in the last corner":                  {full, impl.DiNorth, way(12, 12)},
		"at the end of a joint":               {read(t, "ab"), impl.DiSouth, way(1, 1)},
		"on an edge, across from the joint":   {read(t, "ab"), impl.DiEast, way(1, 0, 1, 1)},
		"on an edge, to the left of it":       {read(t, "ab"), impl.DiWest, way(1, 0, 1, 1)},
		"joints end at open cells":            {read(t, "ab.", "cd."), impl.DiEast, way(0, 1, 1, 1, 2, 1)},
		"a gap between joints":                {read(t, "a.b", "c.d"), impl.DiEast, way(0, 1, 1, 1)},
	} {
		for _, years := range []int64{60, int64(len(c.crack)), int64(len(c.crack)) - 1} {
			check(t, fmt.Sprint("GrowCrack: ", name, ", ", years), all(impl.GrowCrack(c.q, c.crack[0], c.way, years)), all(c.crack, 0))
		}
		check(t, "no years: "+name, all(impl.GrowCrack(c.q, c.crack[0], c.way, 0)), all(c.crack[:1], 0))
	}
	for _, n := range beyond(3) {
		checkCode(t, fmt.Sprint("the way ", n), 2, growCall(full, cell(0, 1), n, 1), growAllCall(full, way(0, 1), []int64{n}, 1), growAllCall(full, way(0, 1, 1, 1), []int64{0, n}, 1))
	}
	for _, n := range beyond(60) {
		checkCode(t, fmt.Sprint(n, " years"), 2, growCall(full, cell(0, 1), 1, n), growAllCall(full, way(0, 1), []int64{1}, n), growAllCall(full, nil, nil, n), longestCall(full, n), longestCall(square(1, 1), n))
	}
}

// TestCrackOf60Years has a crack that would go on behind 60 years.
func TestCrackOf60Years(t *testing.T) {
	q := spiral()
	long, code := impl.GrowCrack(q, cell(0, 11), impl.DiEast, 60)
	check(t, "60 years", all(len(long), code), "[61 0]")
	check(t, "59 years", all(impl.GrowCrack(q, cell(0, 11), impl.DiEast, 59)), all(long[:60], 0))
	behind, _ := impl.GrowCrack(q, long[60], impl.DiWest, 60)
	if len(behind) < 10 {
		t.Errorf("behind 60 years the crack would go on to %v", behind)
	}
	check(t, "the longest one", all(impl.LongestCrack(q, 60)), longestFrom(q, 60))
	_, _, most, _ := impl.LongestCrack(q, 60)
	check(t, "as long as can be", most, 61)
}

func TestTouchedBy(t *testing.T) {
	d := dice(82)
	several := 0
	for i, q := range crackSquares() {
		by, corners := ownersOf(q), cornersOf(q)
		for range 12 {
			crack := by.crackFrom(corners[d.below(len(corners))], int64(d.below(4)), 60)
			list, _ := by.touchedAlong(crack)
			check(t, fmt.Sprint("TouchedBy of ", i, ", ", crack), all(impl.TouchedBy(q, crack)), all(list, 0))
			if len(list) > 4 {
				several++
			}
			changed := slices.Clone(crack)
			changed[d.below(len(changed))] = corners[d.below(len(corners))]
			want := all("[]", 4)
			if list, is := by.touchedAlong(changed); is {
				want = all(list, 0)
			}
			check(t, fmt.Sprint("TouchedBy of ", i, ", ", changed), all(impl.TouchedBy(q, changed)), want)
		}
	}
	if several < 50 {
		t.Errorf("only %d cracks touched several slabs", several)
	}
}

func TestTouchedByOfSomeKinds(t *testing.T) {
	q := threeSlabs()
	for name, c := range map[string]struct {
		crack []impl.Cell
		want  []any
	}{
		"no points":                      {nil, all("[]", 0)},
		"one point":                      {way(1, 1), all("[]", 0)},
		"one point without joints":       {way(3, 3), all("[]", 0)},
		"one edge":                       {way(2, 2, 2, 1), all("[1 2]", 0)},
		"one edge of two slabs, not all": {way(2, 0, 2, 1), all("[0 1]", 0)},
		"two edges of two slabs":         {way(0, 1, 1, 1, 2, 1), all("[0 2]", 0)},
		"ascending":                      {way(2, 2, 2, 1, 1, 1), all("[0 1 2]", 0)},
		"all of them":                    {way(0, 1, 1, 1, 2, 1, 2, 0), all("[0 1 2]", 0)},
		"back and forth":                 {way(2, 2, 2, 1, 2, 2, 2, 1), all("[1 2]", 0)},
		"the same point again":           {way(2, 1, 2, 1), all("[]", 4)},
		"no joint at first":              {way(0, 0, 0, 1, 1, 1), all("[]", 4)},
		"no joint at last":               {way(0, 1, 1, 1, 1, 2), all("[]", 4)},
		"two steps at once":              {way(0, 1, 2, 1), all("[]", 4)},
		"across":                         {way(1, 1, 2, 2), all("[]", 4)},
		"along an edge":                  {way(0, 0, 1, 0), all("[]", 4)},
		"beside an open cell":            {way(2, 2, 3, 2), all("[]", 4)},
		"range before state":             {way(0, 0, 1, 0, 4, 0), all("[]", 2)},
		"range before state, at first":   {way(-1, 0, 0, 0, 1, 0), all("[]", 2)},
		"beyond, and back":               {way(2, 1, 2, 0, 2, -1, 2, 0), all("[]", 2)},
	} {
		check(t, "TouchedBy: "+name, all(impl.TouchedBy(q, c.crack)), c.want)
	}
	all60 := slices.Repeat(way(0, 1, 1, 1), 40)
	check(t, "a long one", all(impl.TouchedBy(gridSquare(60), all60)), "[[0 12] 0]")
}

func TestMeetOf(t *testing.T) {
	d := dice(83)
	met := 0
	for i, q := range crackSquares() {
		by, corners := ownersOf(q), cornersOf(q)
		for range 12 {
			a := by.crackFrom(corners[d.below(len(corners))], int64(d.below(4)), int64(d.below(61)))
			b := by.crackFrom(corners[d.below(len(corners))], int64(d.below(4)), 60)
			want := all(impl.Cell{}, 6)
			if k := slices.IndexFunc(a, func(c impl.Cell) bool { return slices.Contains(b, c) }); k >= 0 {
				want = all(a[k], 0)
				met++
			}
			check(t, fmt.Sprint("MeetOf of ", i, ", ", a, ", ", b), all(impl.MeetOf(q, a, b)), want)
		}
	}
	if met < 200 {
		t.Errorf("only %d cracks met", met)
	}
	q := gridSquare(60)
	for name, c := range map[string]struct {
		a, b []impl.Cell
		want []any
	}{
		"no points":                     {nil, nil, all(impl.Cell{}, 6)},
		"no points of a":                {nil, way(1, 1), all(impl.Cell{}, 6)},
		"no points of b":                {way(1, 1), nil, all(impl.Cell{}, 6)},
		"the first point, which is 0":   {way(0, 0), way(0, 0), all(impl.Cell{}, 0)},
		"the first of a, not of b":      {way(1, 1, 2, 1, 3, 1), way(3, 1, 2, 1, 1, 1), all(cell(1, 1), 0)},
		"the last point":                {way(1, 1, 2, 1, 3, 1), way(3, 3, 3, 2, 3, 1), all(cell(3, 1), 0)},
		"X and Y are not alike":         {way(1, 2), way(2, 1), all(impl.Cell{}, 6)},
		"no joint in a":                 {way(1, 1, 3, 1), way(1, 1), all(impl.Cell{}, 4)},
		"no joint in b":                 {way(1, 1), way(1, 1, 1, 1), all(impl.Cell{}, 4)},
		"no joint, and they do not":     {way(1, 1), way(2, 2, 3, 3), all(impl.Cell{}, 4)},
		"no joint behind the point":     {way(1, 1, 1, 2, 1, 4), way(1, 1), all(impl.Cell{}, 4)},
		"none between a and b":          {way(1, 1, 1, 2), way(5, 1, 5, 2), all(impl.Cell{}, 6)},
		"range of b before state of a":  {way(1, 1, 3, 1), way(13, 0), all(impl.Cell{}, 2)},
		"range of a before state of b":  {way(1, -1), way(1, 1, 3, 1), all(impl.Cell{}, 2)},
		"range, and no points":          {nil, way(0, 13), all(impl.Cell{}, 2)},
		"state, and no points of a":     {nil, way(1, 1, 2, 2), all(impl.Cell{}, 4)},
		"range behind what is no joint": {way(1, 1), way(1, 1, 3, 3, 127, 0), all(impl.Cell{}, 2)},
	} {
		check(t, "MeetOf: "+name, all(impl.MeetOf(q, c.a, c.b)), c.want)
	}
}

func TestLongestCrack(t *testing.T) {
	for i, q := range crackSquares() {
		if i%2 == 0 || len(q.Slabs) == 5 {
			for _, years := range []int64{0, 1, 2, 5, 60} {
				check(t, fmt.Sprint("LongestCrack of ", i, ", ", years), all(impl.LongestCrack(q, years)), longestFrom(q, years))
			}
		}
	}
	for name, c := range map[string]struct {
		q     impl.Square
		years int64
		want  []any
	}{
		"no joints":              {square(2, 2, slab(0, 0, 2, 2)), 60, all(cell(0, 0), 0, 1, 0)},
		"no years":               {gridSquare(60), 0, all(cell(0, 0), 0, 1, 0)},
		"by Y, and then by X":    {read(t, "ab", "cd"), 60, all(cell(1, 0), 1, 3, 0)},
		"the least way":          {read(t, "a", "b"), 60, all(cell(0, 1), 0, 2, 0)},
		"Y ahead of X":           {read(t, "ab.", "...", "c..", "d.."), 1, all(cell(1, 0), 1, 2, 0)},
		"the ways by which left": {read(t, "ab"), 60, all(cell(1, 0), 1, 2, 0)},
		"one year":               {windmill(), 1, all(cell(1, 0), 1, 2, 0)},
		"the first of four":      {windmill(), 60, all(cell(1, 0), 1, 5, 0)},
		"a long one comes last":  {read(t, "ab......", "cccccccc", "dddddddd"), 60, all(cell(0, 2), 0, 9, 0)},
	} {
		check(t, "LongestCrack: "+name, all(impl.LongestCrack(c.q, c.years)), c.want)
	}
}

func TestGrowAll(t *testing.T) {
	d := dice(84)
	for i, q := range crackSquares() {
		by, corners := ownersOf(q), cornersOf(q)
		for _, count := range []int{0, 1, 3, 8} {
			var starts []impl.Cell
			var ways []int64
			var want [][]impl.Cell
			years := int64(d.below(61))
			for range count {
				starts, ways = append(starts, corners[d.below(len(corners))]), append(ways, int64(d.below(4)))
				want = append(want, by.crackFrom(starts[len(want)], ways[len(want)], years))
			}
			check(t, fmt.Sprint("GrowAll of ", i, ", ", starts, ", ", ways), all(impl.GrowAll(q, starts, ways, years)), all(want, 0))
		}
	}
	q := threeSlabs()
	same := []impl.Cell{cell(0, 1), cell(1, 1), cell(2, 1), cell(2, 0)}
	check(t, "each one by itself", all(impl.GrowAll(q, way(0, 1, 0, 1), []int64{1, 1}, 60)), all([][]impl.Cell{same, same}, 0))
	check(t, "one meets another one", all(impl.GrowAll(q, way(0, 1, 2, 2), []int64{1, 0}, 60)), all([][]impl.Cell{same, way(2, 2, 2, 1, 2, 0)}, 0))
	nine, far := make([]impl.Cell, 9), make([]impl.Cell, 9)
	far[8] = cell(0, 4)
	checkCode(t, "nine cracks", 3, growAllCall(q, nine, make([]int64, 9), 60))
	checkCode(t, "range before limit, years", 2, growAllCall(q, nine, make([]int64, 9), 61))
	checkCode(t, "range before limit, a way", 2, growAllCall(q, nine, []int64{0, 0, 0, 0, 0, 0, 0, 0, 4}, 1))
	checkCode(t, "range before limit, a point", 2, growAllCall(q, far, make([]int64, 9), 1))
	checkCode(t, "range before limit, fewer ways", 2, growAllCall(q, nine, make([]int64, 8), 1), growAllCall(q, nine, nil, 1))
	checkCode(t, "range, more ways", 2, growAllCall(q, nine[:1], make([]int64, 2), 1), growAllCall(q, nil, make([]int64, 1), 1), growAllCall(q, nine[:8], make([]int64, 9), 1))
	checkCode(t, "range, no ways", 2, growAllCall(q, nine[:1], nil, 1))
	check(t, "eight cracks", all(impl.GrowAll(q, nine[:8], make([]int64, 8), 60)), all(slices.Repeat([][]impl.Cell{way(0, 0)}, 8), 0))
}

// TestValidLevels tries levels that are not valid for a square with three slabs.
func TestValidLevels(t *testing.T) {
	q := threeSlabs()
	rates := []int64{0, 10, 0}
	for _, levels := range [][]int64{{0, 0, 0}, {100, -100, 100}, {-100, 0, 1}} {
		check(t, fmt.Sprint("ValidLevels of ", levels), impl.ValidLevels(q, levels), true)
		check(t, fmt.Sprint("LevelsAfter of ", levels), all(impl.LevelsAfter(q, levels, rates, 0)), all(levels, 0))
	}
	for _, levels := range [][]int64{nil, {0}, {0, 0}, {0, 0, 0, 0}, make([]int64, 60), {101, 0, 0}, {0, 101, 0}, {0, 0, 101}, {0, 0, -101}, {-101, 0, 0}, {0, 256, 0}, {1 << 32, 0, 0}, {0, 0, math.MinInt64}, {math.MaxInt64, 0, 0}} {
		name := fmt.Sprint("levels ", levels)
		check(t, name, all(impl.ValidLevels(q, levels), impl.LevelsText(q, levels)), "[false ]")
		checkCode(t, name, 1, levelCalls(q, levels, rates, 0, 0, nil)...)
		checkCode(t, name+", wrong numbers", 1, levelCalls(q, levels, rates, 201, 61, []int64{3})...)
		checkCode(t, name+", wrong rates", 1, levelCalls(q, levels, nil, -1, -1, []int64{-1})...)
	}
	levels := []int64{0, 0, 0}
	for _, wrong := range [][]int64{nil, {0}, {0, 0}, {0, 0, 0, 0}, {-1, 0, 0}, {0, -1, 0}, {0, 0, -1}, {11, 0, 0}, {0, 0, 11}, {0, 256, 0}, {1 << 32, 0, 0}, {0, 0, math.MinInt64}, {0, 0, math.MaxInt64}} {
		for _, n := range []int64{0, -1, 201} {
			checkCode(t, fmt.Sprint("rates ", wrong), 1, afterCall(q, levels, wrong, n), firstCall(q, levels, wrong, n))
		}
	}
	check(t, "no slabs", all(impl.ValidLevels(square(3, 3), nil), impl.ValidLevels(square(3, 3), []int64{}), impl.ValidLevels(square(3, 3), []int64{0})), "[true true false]")
	check(t, "60 slabs", all(impl.ValidLevels(gridSquare(60), make([]int64, 60)), impl.ValidLevels(gridSquare(60), make([]int64, 59))), "[true false]")
}

func TestRangesOfLevels(t *testing.T) {
	q := threeSlabs()
	levels, rates := []int64{0, 5, 20}, []int64{0, 1, 2}
	for _, limit := range beyond(200) {
		name := fmt.Sprint("the limit ", limit)
		checkCode(t, name, 2, tripCalls(q, levels, limit, nil)...)
		checkCode(t, name, 2, tripCalls(square(1, 1), nil, limit, nil)...)
		checkCode(t, name, 2, tripCalls(gridSquare(60), chess(gridSquare(60), 60), limit, nil)...)
		checkCode(t, name, 2, firstCall(q, levels, rates, limit), firstCall(square(1, 1), nil, nil, limit))
	}
	for _, years := range beyond(60) {
		checkCode(t, fmt.Sprint(years, " years"), 2, afterCall(q, levels, rates, years), afterCall(square(1, 1), nil, nil, years))
	}
	for _, index := range beyond(2) {
		for _, list := range [][]int64{{index}, {0, 1, 2, index}, {index, 2}} {
			for _, limit := range []int64{0, 10, 200} {
				check(t, fmt.Sprint("CoversTrips, no slab ", index), all(impl.CoversTrips(q, levels, limit, list)), "[false 2]")
			}
		}
	}
	check(t, "CoversTrips, no slabs at all", all(impl.CoversTrips(square(1, 1), nil, 0, []int64{0})), "[false 2]")
	check(t, "CoversTrips, the last slab", all(impl.CoversTrips(gridSquare(60), make([]int64, 60), 0, []int64{59})), "[true 0]")
	check(t, "CoversTrips, behind the last slab", all(impl.CoversTrips(gridSquare(60), make([]int64, 60), 0, []int64{60})), "[false 2]")
}

// chess returns levels that are 0 and high by turns, as X + Y of slabs is even or
// not.
func chess(q impl.Square, high int64) []int64 {
	levels := make([]int64, len(q.Slabs))
	for i, s := range q.Slabs {
		levels[i] = high * int64((s.X+s.Y)%2)
	}
	return levels
}

func TestTrips(t *testing.T) {
	d := dice(85)
	trips, level := 0, 0
	for i, q := range crackSquares() {
		pairs := pairsOf(q)
		for _, uneven := range []int{0, 2, 10} {
			levels := someLevels(&d, len(q.Slabs), uneven)
			check(t, fmt.Sprint("WorstTrip of ", i, ", ", levels), all(impl.WorstTrip(q, levels)), worstOf(pairs, levels))
			for _, limit := range []int64{0, 1, int64(d.below(201)), 200} {
				want := tripsOf(pairs, levels, limit)
				check(t, fmt.Sprint("TripEdges of ", i, ", ", levels, ", ", limit), all(impl.TripEdges(q, levels, limit)), all(want, 0))
				check(t, fmt.Sprint("PairsBound of ", i, ", ", levels, ", ", limit), all(impl.PairsBound(q, levels, limit)), all(boundOf(want), 0))
				if trips += len(want); len(want) == 0 {
					level++
				}
			}
		}
	}
	if trips < 5000 || level < 300 {
		t.Errorf("there were %d trips, and %d lists of none", trips, level)
	}
}

func TestTripsOfSomeKinds(t *testing.T) {
	three, row := threeSlabs(), read(t, "abcd")
	for name, c := range map[string]struct {
		q      impl.Square
		levels []int64
		limit  int64
		trips  string
		worst  string
	}{
		"no slabs":                {square(3, 3), nil, 0, "[]", "[[0 0] 0 6]"},
		"one slab":                {square(3, 3, slab(1, 1, 1, 1)), []int64{100}, 0, "[]", "[[0 0] 0 6]"},
		"slabs across":            {read(t, "a.", ".b"), []int64{100, -100}, 0, "[]", "[[0 0] 0 6]"},
		"a gap between":           {read(t, "a.b"), []int64{100, -100}, 0, "[]", "[[0 0] 0 6]"},
		"all level":               {three, []int64{7, 7, 7}, 0, "[]", "[[0 1] 0 0]"},
		"just as the limit":       {row, []int64{0, 10, 0, 10}, 10, "[]", "[[0 1] 10 0]"},
		"more by 1":               {row, []int64{0, 10, 0, 10}, 9, "[[0 1] [1 2] [2 3]]", "[[0 1] 10 0]"},
		"up and down":             {row, []int64{0, 10, 0, 11}, 10, "[[2 3]]", "[[2 3] 11 0]"},
		"down and up":             {row, []int64{11, 0, 10, 10}, 10, "[[0 1]]", "[[0 1] 11 0]"},
		"not beside each other":   {row, []int64{0, 10, 20, 30}, 10, "[]", "[[0 1] 10 0]"},
		"the greatest difference": {row, []int64{-100, 100, 0, 0}, 199, "[[0 1]]", "[[0 1] 200 0]"},
		"the greatest limit":      {row, []int64{-100, 100, -100, 100}, 200, "[]", "[[0 1] 200 0]"},
		"the first of several":    {row, []int64{0, 3, 9, 3}, 5, "[[1 2] [2 3]]", "[[1 2] 6 0]"},
		"the example":             {three, []int64{0, 5, 20}, 10, "[[0 2] [1 2]]", "[[0 2] 20 0]"},
		"all pairs, ordered":      {three, []int64{0, 20, 40}, 10, "[[0 1] [0 2] [1 2]]", "[[0 2] 40 0]"},
		"below 0":                 {three, []int64{-40, -20, 0}, 10, "[[0 1] [0 2] [1 2]]", "[[0 2] 40 0]"},
		"long joints once":        {read(t, "aaaa", "bbbb"), []int64{1, 0}, 0, "[[0 1]]", "[[0 1] 1 0]"},
		"indices of two digits":   {rowSquare(12), []int64{0, 0, 0, 0, 0, 0, 0, 0, 9, 0, 0, 9}, 8, "[[7 8] [8 9] [10 11]]", "[[7 8] 9 0]"},
	} {
		check(t, "TripEdges: "+name, all(impl.TripEdges(c.q, c.levels, c.limit)), all(c.trips, 0))
		check(t, "WorstTrip: "+name, all(impl.WorstTrip(c.q, c.levels)), c.worst)
	}
}

// Promise 15: what sinks never rises, and the levels are those year by year.
func TestWhatSinksNeverRises(t *testing.T) {
	d := dice(86)
	deep := 0
	for i, q := range crackSquares() {
		levels, rates := someLevels(&d, len(q.Slabs), 10), someRates(&d, len(q.Slabs), []int{0, 1, 3, 10}[i%4])
		before := levels
		for years := range int64(61) {
			after, code := impl.LevelsAfter(q, levels, rates, years)
			if i%5 == 0 || years%20 == 0 {
				check(t, fmt.Sprint("LevelsAfter of ", i, ", ", levels, ", ", rates, ", ", years), all(after, code), all(sunkBy(levels, rates, years), 0))
			}
			for k := range after {
				if after[k] > before[k] || after[k] < -100 {
					t.Errorf("slab %d of %d was at %d, and is at %d behind %d years", k, i, before[k], after[k], years)
				}
				if after[k] == -100 {
					deep++
				}
			}
			if !impl.ValidLevels(q, after) {
				t.Errorf("levels are not valid: %v", after)
			}
			before = after
		}
	}
	if deep < 1000 {
		t.Errorf("only %d slabs sank as low as can be", deep)
	}
	row := read(t, "abc")
	for name, c := range map[string]struct {
		levels, rates []int64
		years         int64
		want          []int64
	}{
		"no years":            {[]int64{1, -2, 3}, []int64{1, 2, 10}, 0, []int64{1, -2, 3}},
		"one year":            {[]int64{1, -2, 3}, []int64{1, 2, 10}, 1, []int64{0, -4, -7}},
		"60 years":            {[]int64{100, 100, 100}, []int64{0, 1, 3}, 60, []int64{100, 40, -80}},
		"just as low as it":   {[]int64{-40, -90, 100}, []int64{1, 10, 10}, 60, []int64{-100, -100, -100}},
		"lower by 1 and not":  {[]int64{-41, -39, -100}, []int64{1, 1, 0}, 60, []int64{-100, -99, -100}},
		"it does not get low": {[]int64{-100, -95, -99}, []int64{10, 3, 1}, 2, []int64{-100, -100, -100}},
	} {
		check(t, "LevelsAfter: "+name, all(impl.LevelsAfter(row, c.levels, c.rates, c.years)), all(c.want, 0))
	}
	check(t, "LevelsAfter, no slabs", all(impl.LevelsAfter(square(1, 1), nil, nil, 60)), "[[] 0]")
}

func TestFirstTrip(t *testing.T) {
	d := dice(87)
	var found [61]bool
	never := 0
	for i, q := range crackSquares() {
		pairs := pairsOf(q)
		for range 6 {
			uneven, most, limit := d.below(3), 1+d.below(10), int64(d.below(60))
			levels, rates := someLevels(&d, len(q.Slabs), uneven), someRates(&d, len(q.Slabs), most)
			want := all(0, impl.ErrNotFound)
			for years := int64(60); years >= 0; years-- {
				if len(tripsOf(pairs, sunkBy(levels, rates, years), limit)) > 0 {
					want = all(years, 0)
				}
			}
			check(t, fmt.Sprint("FirstTrip of ", i, ", ", levels, ", ", rates, ", ", limit), all(impl.FirstTrip(q, levels, rates, limit)), want)
			if want[1] == 0 {
				found[want[0].(int64)] = true
			} else {
				never++
			}
		}
	}
	for years := range 8 {
		if !found[years] {
			t.Errorf("no first trip was behind %d years", years)
		}
	}
	if never < 50 {
		t.Errorf("only %d squares had no trip", never)
	}
	two := read(t, "ab")
	for name, c := range map[string]struct {
		levels, rates []int64
		limit         int64
		want          string
	}{
		"a trip at once":                 {[]int64{0, 11}, []int64{10, 0}, 10, "[0 0]"},
		"a trip that goes away":          {[]int64{0, 11}, []int64{0, 10}, 10, "[0 0]"},
		"a trip behind one year":         {[]int64{0, 10}, []int64{1, 0}, 10, "[1 0]"},
		"a trip behind 60 years":         {[]int64{0, 0}, []int64{0, 1}, 59, "[60 0]"},
		"a trip behind 61 years":         {[]int64{0, 0}, []int64{0, 1}, 60, "[0 6]"},
		"both sink alike":                {[]int64{0, 9}, []int64{10, 10}, 10, "[0 6]"},
		"both sink alike, to the lowest": {[]int64{-91, -80}, []int64{10, 10}, 10, "[0 0]"},
		"as low as can be":               {[]int64{-90, -95}, []int64{0, 10}, 10, "[0 6]"},
		"as low as can be, and a trip":   {[]int64{-89, -95}, []int64{0, 10}, 10, "[1 0]"},
		"no trip is so great":            {[]int64{100, 100}, []int64{0, 10}, 200, "[0 6]"},
		"nearly as great":                {[]int64{100, 100}, []int64{0, 10}, 199, "[20 0]"},
		"they meet, and go on":           {[]int64{0, 6}, []int64{0, 3}, 6, "[5 0]"},
		"the limit 0":                    {[]int64{5, 5}, []int64{2, 3}, 0, "[1 0]"},
	} {
		check(t, "FirstTrip: "+name, all(impl.FirstTrip(two, c.levels, c.rates, c.limit)), c.want)
	}
	check(t, "FirstTrip, no slabs", all(impl.FirstTrip(square(1, 1), nil, nil, 0)), "[0 6]")
	check(t, "FirstTrip, not beside each other", all(impl.FirstTrip(read(t, "a.b"), []int64{0, 100}, []int64{0, 0}, 0)), "[0 6]")
}

// checkExchanged checks all functions of slabs that are exchanged.
func checkExchanged(t *testing.T, name string, q impl.Square, levels []int64, limit int64) (fewest, greedy []int64) {
	t.Helper()
	trips := tripsOf(pairsOf(q), levels, limit)
	slabs := inTrips(trips)
	greedy, code := impl.GreedyExchanged(q, levels, limit)
	check(t, "GreedyExchanged"+name, all(greedy, code), all(greedyOf(trips), 0))
	check(t, "CoversTrips of the greedy ones"+name, all(impl.CoversTrips(q, levels, limit, greedy)), "[true 0]")
	fewest, code = impl.FewestExchanged(q, levels, limit)
	if len(slabs) > 12 {
		check(t, "FewestExchanged"+name, all(fewest, code), "[[] 3]")
		return nil, greedy
	}
	check(t, "FewestExchanged"+name, all(fewest, code), all(fewestOf(trips, slabs), 0))
	check(t, "CoversTrips of the fewest"+name, all(impl.CoversTrips(q, levels, limit, fewest)), "[true 0]")
	for i := range fewest {
		check(t, "CoversTrips of one less"+name, all(impl.CoversTrips(q, levels, limit, slices.Delete(slices.Clone(fewest), i, i+1))), "[false 0]")
	}
	bound, _ := impl.PairsBound(q, levels, limit)
	if int(bound) > len(fewest) || len(fewest) > len(greedy) {
		t.Errorf("the bound%s is %d, fewest are %v, and greedy %v", name, bound, fewest, greedy)
	}
	return fewest, greedy
}

// Promise 15: slabs that are told cover all trips, and no fewer do.
func TestNoFewerSlabsCoverTrips(t *testing.T) {
	d := dice(88)
	several, many, fewer := 0, 0, 0
	for i, q := range crackSquares() {
		for k := range 8 {
			levels := someLevels(&d, len(q.Slabs), []int{1, 2, 4, 10}[k%4])
			limit := int64([]int{0, 30, 90, 120, 150}[d.below(5)])
			fewest, greedy := checkExchanged(t, fmt.Sprint(" of ", i, ", ", levels, ", ", limit), q, levels, limit)
			if len(fewest) > 3 {
				several++
			}
			if fewest == nil && greedy != nil {
				many++
			}
			if fewest != nil && len(fewest) < len(greedy) {
				fewer++
			}
		}
	}
	if several < 50 || many < 50 || fewer < 5 {
		t.Errorf("%d lists had several slabs, %d too many, and %d were shorter than greedy ones", several, many, fewer)
	}
}

// Promise 15: of all sets of slabs, in trips or not, none with fewer slabs
// covers the trips.
func TestNoSetOfSlabsIsLess(t *testing.T) {
	d := dice(89)
	for i, q := range smallSquares() {
		if len(q.Slabs) > 10 {
			continue
		}
		var indices []int64
		for k := range q.Slabs {
			indices = append(indices, int64(k))
		}
		for range 4 {
			levels, limit := someLevels(&d, len(q.Slabs), 10), int64(d.below(120))
			trips := tripsOf(pairsOf(q), levels, limit)
			check(t, fmt.Sprint("FewestExchanged of ", i, ", ", levels, ", ", limit), all(impl.FewestExchanged(q, levels, limit)), all(fewestOf(trips, indices), 0))
			for number := range 1 << len(indices) {
				var list []int64
				for k := range indices {
					if number>>k&1 == 1 {
						list = append(list, int64(k))
					}
				}
				if got, code := impl.CoversTrips(q, levels, limit, list); code != impl.OK || got != isCoveredBy(trips, list) {
					t.Errorf("CoversTrips of %d, %v, %d, %v: %v, %d", i, levels, limit, list, got, code)
				}
				if number > 40 {
					break
				}
			}
		}
	}
}

func TestExchangedOfSomeKinds(t *testing.T) {
	star := read(t, "abbc", "abbc", "deef")
	for name, c := range map[string]struct {
		q                      impl.Square
		levels                 []int64
		limit                  int64
		fewest, greedy, bounds string
	}{
		"no slabs":              {square(2, 2), nil, 0, "[[] 0]", "[[] 0]", "[0 0]"},
		"no trips":              {read(t, "abcd"), []int64{0, 5, 0, 5}, 5, "[[] 0]", "[[] 0]", "[0 0]"},
		"one trip":              {read(t, "abcd"), []int64{0, 0, 0, 9}, 5, "[[2] 0]", "[[2] 0]", "[1 0]"},
		"the first list":        {read(t, "abcd"), []int64{0, 9, 0, 9}, 5, "[[0 2] 0]", "[[1 2] 0]", "[2 0]"},
		"two of three":          {threeSlabs(), []int64{0, 20, 40}, 10, "[[0 1] 0]", "[[0 1] 0]", "[1 0]"},
		"one in the middle":     {star, []int64{0, 50, 0, 0, 0, 0}, 10, "[[1] 0]", "[[1] 0]", "[1 0]"},
		"the most trips first":  {star, []int64{0, 50, 0, 20, 0, 0}, 10, "[[1 3] 0]", "[[1 3] 0]", "[2 0]"},
		"greedy is not by size": {read(t, "abcde"), []int64{0, 0, 0, 9, 0}, 5, "[[3] 0]", "[[3] 0]", "[1 0]"},
		"five in a row":         {read(t, "abcde"), []int64{0, 9, 0, 9, 0}, 5, "[[1 3] 0]", "[[1 3] 0]", "[2 0]"},
		"six in a row":          {read(t, "abcdef"), []int64{0, 9, 0, 9, 0, 9}, 5, "[[0 2 4] 0]", "[[1 3 4] 0]", "[3 0]"},
		"two parts":             {read(t, "ab.cd"), []int64{0, 9, 9, 0}, 5, "[[0 2] 0]", "[[0 2] 0]", "[2 0]"},
		"the last one first":    {read(t, "ab..", "ccde", "..fe"), []int64{0, 8, 8, 90, 30, 30}, 10, "[[3] 0]", "[[3] 0]", "[1 0]"},
		"five trips of four":    {read(t, "abb", "acd"), []int64{0, 30, 60, 90}, 10, "[[1 2] 0]", "[[1 2] 0]", "[2 0]"},
	} {
		check(t, "FewestExchanged: "+name, all(impl.FewestExchanged(c.q, c.levels, c.limit)), c.fewest)
		check(t, "GreedyExchanged: "+name, all(impl.GreedyExchanged(c.q, c.levels, c.limit)), c.greedy)
		check(t, "PairsBound: "+name, all(impl.PairsBound(c.q, c.levels, c.limit)), c.bounds)
	}
}

// TestLimitOfTrips has just as many slabs in trips as there may be, and one more.
func TestLimitOfTrips(t *testing.T) {
	row := rowSquare(12)
	levels := chess(row, 9)
	check(t, "12 slabs in trips", all(impl.FewestExchanged(row, levels, 8)), "[[0 2 4 6 8 10] 0]")
	check(t, "no trips", all(impl.FewestExchanged(row, levels, 9)), "[[] 0]")
	two := square(12, 2, slices.Concat(rowOfSlabs(cell(0, 0), 12), rowOfSlabs(cell(0, 1), 12))...)
	check(t, "24 slabs in trips", all(impl.FewestExchanged(two, chess(two, 9), 8)), "[[] 3]")
	thirteen := square(12, 2, append(rowOfSlabs(cell(0, 0), 12), slab(0, 1, 1, 1))...)
	with := append(slices.Clone(levels), 0)
	check(t, "a slab that is in no trip", all(impl.FewestExchanged(thirteen, with, 8)), "[[0 2 4 6 8 10] 0]")
	with[12] = 100
	check(t, "13 slabs in trips", all(impl.FewestExchanged(thirteen, with, 8)), "[[] 3]")
	check(t, "greedy ones have no limit", all(impl.GreedyExchanged(thirteen, with, 8)), "[[0 2 4 6 8 10] 0]")
	check(t, "bounds have no limit", all(impl.PairsBound(thirteen, with, 8)), "[6 0]")
	check(t, "trips have no limit", all(impl.CoversTrips(thirteen, with, 8, []int64{0, 2, 4, 6, 8, 10})), "[true 0]")
	most := gridSquare(60)
	checkExchanged(t, " of 60 slabs", most, chess(most, 50), 49)
	checkExchanged(t, " of 60 slabs in few trips", most, append(make([]int64, 59), 50), 49)
}

func TestCoversTripsOfSomeKinds(t *testing.T) {
	row := read(t, "abcd")
	levels := []int64{0, 9, 0, 9}
	for name, c := range map[string]struct {
		limit int64
		list  []int64
		want  bool
	}{
		"no slabs":              {5, nil, false},
		"no slabs, no trips":    {9, nil, true},
		"no trips":              {9, []int64{3}, true},
		"one slab":              {5, []int64{1}, false},
		"two slabs":             {5, []int64{1, 2}, true},
		"not ascending":         {5, []int64{2, 0}, true},
		"the last trip is left": {5, []int64{0, 1}, false},
		"the first one is left": {5, []int64{2, 3}, false},
		"that between is left":  {5, []int64{0, 3}, false},
		"a slab twice":          {5, []int64{1, 1, 1, 3, 1}, true},
		"all of them":           {5, []int64{0, 1, 2, 3}, true},
	} {
		check(t, "CoversTrips: "+name, all(impl.CoversTrips(row, levels, c.limit, c.list)), all(c.want, 0))
	}
}

func TestLevelsText(t *testing.T) {
	d := dice(90)
	for i, q := range crackSquares() {
		for _, uneven := range []int{0, 5, 10} {
			levels := someLevels(&d, len(q.Slabs), uneven)
			s := levelsText(levels)
			check(t, fmt.Sprint("LevelsText of ", i), impl.LevelsText(q, levels), s)
			check(t, fmt.Sprint("ReadLevels of ", i), all(impl.ReadLevels(q, s)), all(levels, 0))
			if !isLevelsText(s, len(levels)) {
				t.Errorf("%q is no text", s)
			}
		}
	}
	check(t, "levels below 0", impl.LevelsText(threeSlabs(), []int64{-100, 0, 100}), "-100 0 100")
	check(t, "no slabs", all(impl.LevelsText(square(1, 1), nil), impl.LevelsText(square(1, 1), []int64{0})), "[ ]")
	check(t, "no levels", all(impl.ReadLevels(square(1, 1), "")), "[[] 0]")
}

func TestReadLevelsOfNoText(t *testing.T) {
	q := threeSlabs()
	for _, s := range []string{
		"", " ", "0", "0 0", "0 0 0 0", "0 0 0 ", " 0 0 0", "0  0 0", "0 0 0\n", "0\n0\n0", "0\t0 0", "0,0,0", "0, 0, 0", "0x0x0", "0 0x0", "0;0;0", "-0 0 0", "0 0 -0", "+1 0 0", "01 0 0", "0 0 00", "-01 0 0", "1.0 0 0",
		"1e1 0 0", "0x1 0 0", "1_0 0 0", "--1 0 0", "- 1 0", "-", "a b c", "0 0 a", "101 0 0", "0 -101 0", "0 0 127", "0 0 -128", "0 0 128", "0 0 256", "4294967296 0 0", "18446744073709551616 0 0", "0 0 0\x00", "\xff 0 0", "0\u00a00 0", "１ 0 0", "−1 0 0",
	} {
		check(t, fmt.Sprintf("ReadLevels of %q", s), all(impl.ReadLevels(q, s)), "[[] 5]")
		if isLevelsText(s, 3) {
			t.Errorf("%q is a text", s)
		}
	}
	for _, s := range []string{" ", "0", "\n", "x", ",", "-", "a"} {
		check(t, fmt.Sprintf("ReadLevels of %q, no slabs", s), all(impl.ReadLevels(square(1, 1), s)), "[[] 5]")
	}
	check(t, "as great as can be", all(impl.ReadLevels(q, "100 -100 0")), "[[100 -100 0] 0]")
}

// TestReadLevelsOfChangedTexts changes single bytes of texts, takes them away,
// and adds some.
func TestReadLevelsOfChangedTexts(t *testing.T) {
	d := dice(91)
	good := 0
	for range 4000 {
		q := rowSquare(1 + d.below(5))
		s := changed(&d, levelsText(someLevels(&d, len(q.Slabs), 8)), "0123456789  --,x+\n")
		readLevels := func(s string) ([]int64, int64) { return impl.ReadLevels(q, s) }
		good += checkRead(t, s, isLevelsText(s, len(q.Slabs)), readLevels, func(levels []int64) string { return impl.LevelsText(q, levels) })
	}
	if good < 800 {
		t.Errorf("only %d texts were good", good)
	}
}

// Promise 1: no function modifies its arguments, and all results are equal for
// equal arguments, in memory of their own.
func TestCracksArePure(t *testing.T) {
	d := dice(92)
	squares := append(crackSquares()[:60], windmill(), gridSquare(60), rowSquare(12))
	for _, q := range notValid() {
		squares = append(squares, q)
	}
	for i, q := range squares {
		q.Slabs = roomy(q.Slabs, slab(7, 7, 7, 7))
		a, b := []impl.Cell{cell(0, 0)}, []impl.Cell{cell(0, 0)}
		if isRight(q) {
			at, to, _, _ := impl.LongestCrack(q, 60)
			a, _ = impl.GrowCrack(q, at, to, 60)
			b = slices.Clone(a)
			slices.Reverse(b)
		}
		a, b = roomy(a, cell(7, 7)), roomy(b, cell(7, 7))
		starts := roomy(a[:min(8, len(a))], cell(7, 7))
		ways := roomy(make([]int64, len(starts)), 7)
		for k := range ways {
			ways[k] = int64(d.below(4))
		}
		levels := roomy(someLevels(&d, len(q.Slabs), 3), 7)
		rates := roomy(someRates(&d, len(q.Slabs), 10), 7)
		list := roomy(someIndices(&d, len(q.Slabs), 6), 7)
		calls := levelCalls(q, levels, rates, 60, 9, list)
		calls = append(calls, isJointCall(q, cell(0, 0), cell(0, 1)), countCall(q), jointsAtCall(q, a[0]), growCall(q, a[0], 1, 60), growAllCall(q, starts, ways, 60), growAllCall(q, nil, nil, 0),
			longestCall(q, 60), touchedCall(q, a), touchedCall(q, nil), meetCall(q, a, b), meetCall(q, b, a),
			liftCall{"ValidLevels", func() []any { return all(impl.ValidLevels(q, levels)) }, nil},
			liftCall{"LevelsText", func() []any { return all(impl.LevelsText(q, levels)) }, nil},
			liftCall{"ReadLevels", func() []any { return all(impl.ReadLevels(q, levelsText(levels))) }, nil})
		for _, c := range calls {
			checkPure(t, fmt.Sprint(c.name, " of ", i), all(q, a, b, starts, ways, levels, rates, list), c.call)
		}
	}
}

// Promise 1: functions return for great arguments, too.
func TestCracksOfManyElements(t *testing.T) {
	const many = 1000000
	q := threeSlabs()
	numbers, cells, back := make([]int64, many), make([]impl.Cell, many), slices.Repeat(way(0, 1, 1, 1), many/2)
	checkCode(t, "many points", 4, touchedCall(q, cells), meetCall(q, cells, nil), meetCall(q, nil, cells), meetCall(q, back, cells))
	check(t, "back and forth", all(impl.TouchedBy(q, back)), "[[0 2] 0]")
	check(t, "two that are long", all(impl.MeetOf(q, back[:many/2], back[1:many/2])), "[{0 1} 0]")
	checkCode(t, "they do not meet", 6, meetCall(q, back[:many/2], slices.Repeat(way(2, 1, 2, 0), many/4)))
	checkCode(t, "many cracks", 3, growAllCall(q, cells, numbers, 60))
	checkCode(t, "many starts", 2, growAllCall(q, cells, nil, 60))
	checkCode(t, "many ways", 2, growAllCall(q, nil, numbers, 60))
	checkCode(t, "many levels", 1, levelCalls(q, numbers, numbers, 0, 0, numbers)...)
	checkCode(t, "many rates", 1, afterCall(q, numbers[:3], numbers, 0), firstCall(q, numbers[:3], numbers, 0))
	check(t, "many indices", all(impl.CoversTrips(q, []int64{0, 9, 0}, 5, numbers)), "[false 0]")
	check(t, "many indices", all(impl.CoversTrips(gridSquare(60), chess(gridSquare(60), 50), 0, numbers)), "[false 0]")
	check(t, "LevelsText", impl.LevelsText(q, numbers), "")
	great := square(12, 12, make([]impl.Slab, many)...)
	checkCode(t, "a square of many slabs", 1, countCall(great), longestCall(great, 60), touchedCall(great, back))
	checkCode(t, "a square of many slabs", 1, levelCalls(great, numbers, numbers, 0, 0, nil)...)
	for _, s := range []string{"1", "1 ", " ", "\n", "9", "100 ", "-", "\xff", ",", "x", "1 101 "} {
		long := strings.Repeat(s, many/len(s))
		check(t, "ReadLevels of much", all(impl.ReadLevels(q, long)), "[[] 5]")
		check(t, "ReadLevels of much behind", all(impl.ReadLevels(q, "0 1 2"+long)), "[[] 5]")
		check(t, "ReadLevels of much, no slabs", all(impl.ReadLevels(square(1, 1), long)), "[[] 5]")
	}
}

// TestExampleOfCracks is the example of the document.
func TestExampleOfCracks(t *testing.T) {
	q := read(t, "aab", "ccb", "cc.")
	for _, edge := range [][]impl.Cell{way(0, 1, 1, 1), way(1, 1, 2, 1), way(2, 0, 2, 1), way(2, 1, 2, 2)} {
		check(t, fmt.Sprint("joint ", edge), all(impl.IsJoint(q, edge[0], edge[1])), "[true 0]")
	}
	check(t, "joints", all(impl.CountJoints(q)), "[4 0]")
	crack, code := impl.GrowCrack(q, cell(0, 1), impl.DiEast, 60)
	check(t, "crack", all(crack, code), "[[{0 1} {1 1} {2 1} {2 0}] 0]")
	check(t, "touched", all(impl.TouchedBy(q, crack)), "[[0 1 2] 0]")
	check(t, "trips", all(impl.TripEdges(q, []int64{0, 5, 20}, 10)), "[[[0 2] [1 2]] 0]")
	check(t, "fewest", all(impl.FewestExchanged(q, []int64{0, 5, 20}, 10)), "[[2] 0]")
	check(t, "first trip", all(impl.FirstTrip(q, []int64{0, 0, 0}, []int64{0, 3, 0}, 10)), "[4 0]")
}
