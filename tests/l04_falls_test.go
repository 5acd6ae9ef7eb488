package tests

import (
	"fmt"
	"math"
	"slices"
	"strings"
	"testing"

	"loop.example/g01383/impl"
)

// groundCall is a function with a ground, and all results but the code that
// come with an error.
type groundCall struct {
	name  string
	call  func(g impl.Ground) []any
	zeros []any
}

// noHeights prints as heights that are all 0.
var noHeights [9][9]int16

// wholeCalls returns all functions that take a ground alone.
func wholeCalls() []groundCall {
	return []groundCall{
		{"StandsAt", func(g impl.Ground) []any { return all(impl.StandsAt(g)) }, all("[]")},
		{"SteepestFall", func(g impl.Ground) []any { return all(impl.SteepestFall(g)) }, all(cell(0, 0), cell(0, 0), 0)},
		{"FlatSteps", func(g impl.Ground) []any { return all(impl.FlatSteps(g)) }, all(0)},
		{"FillLevels", func(g impl.Ground) []any { return all(impl.FillLevels(g)) }, all(noHeights)},
		{"PoolSum", func(g impl.Ground) []any { return all(impl.PoolSum(g)) }, all(0)},
		{"DrySquare", func(g impl.Ground) []any { return all(impl.DrySquare(g)) }, all(impl.Ground{}, 0)},
		{"FewestGullies", func(g impl.Ground) []any { return all(impl.FewestGullies(g)) }, all("[]")},
		{"MirrorGround", func(g impl.Ground) []any { return all(impl.MirrorGround(g)) }, all(impl.Ground{})},
	}
}

// pointCalls returns all functions that take a point, for one.
func pointCalls(at impl.Cell) []groundCall {
	return []groundCall{
		{"FallAt", func(g impl.Ground) []any { return all(impl.FallAt(g, at)) }, all(cell(0, 0), 0)},
		{"RunFrom", func(g impl.Ground) []any { return all(impl.RunFrom(g, at)) }, all("[]")},
		{"DrainsTo", func(g impl.Ground) []any { return all(impl.DrainsTo(g, at)) }, all(0)},
	}
}

// numberCalls returns all functions that take a number, for one.
func numberCalls(n int64) []groundCall {
	return append(fallCalls(n),
		groundCall{"BasinOf", func(g impl.Ground) []any { return all(impl.BasinOf(g, n)) }, all("[]")},
		groundCall{"RaiseAll", func(g impl.Ground) []any { return all(impl.RaiseAll(g, n)) }, all(impl.Ground{})})
}

// fallCalls returns all functions that take a fall, for one.
func fallCalls(fall int64) []groundCall {
	return []groundCall{
		{"KeepsFall", func(g impl.Ground) []any { return all(impl.KeepsFall(g, fall)) }, all(false)},
		{"FirstShort", func(g impl.Ground) []any { return all(impl.FirstShort(g, fall)) }, all(cell(0, 0))},
	}
}

// readGround returns the ground with some rows, as package impl reads it.
func readGround(t *testing.T, rows ...string) impl.Ground {
	t.Helper()
	g, code := impl.ReadGround(text(rows...))
	if code != impl.OK {
		t.Fatalf("ReadGround of %q: %d", rows, code)
	}
	return g
}

// notPoints returns cells that are no points of a ground, around it, and far
// off.
func notPoints(g impl.Ground) []impl.Cell {
	w, h := g.Wide, g.High
	return []impl.Cell{cell(-1, 0), cell(0, -1), cell(w, 0), cell(0, h), cell(w-1, h), cell(w, h-1), cell(w, h), cell(-1, h-1), cell(127, 0), cell(0, 127), cell(-128, 0), cell(0, -128), cell(127, 127), cell(-128, -128)}
}

func TestLimitsOfGrounds(t *testing.T) {
	check(t, "limits", all(impl.MaxPoints, impl.MaxRise, impl.MaxGullies), "[9 200 8]")
}

func TestValidGround(t *testing.T) {
	for i, g := range someGrounds() {
		if !isGroundRight(g) || !impl.ValidGround(g) {
			t.Fatalf("ground %d is not valid: %v", i, g)
		}
	}
	for name, g := range notGrounds() {
		if isGroundRight(g) || impl.ValidGround(g) {
			t.Errorf("%s: valid", name)
		}
	}
	most := level(9, 9, 200)
	most.Gullies = pointsOf(most)[81-8:]
	check(t, "limits that are reached", impl.ValidGround(most), true)
	check(t, "gullies by Y, and then by X", impl.ValidGround(gullied(cell(2, 0), cell(0, 1), cell(1, 1), cell(0, 2))), true)
}

// TestValidGroundOfAnyNumbers tries numbers around those that are valid.
func TestValidGroundOfAnyNumbers(t *testing.T) {
	d := dice(51)
	valid := 0
	for range 40000 {
		g := someGround(&d, 1+d.below(9), 1+d.below(9), 2, d.below(9))
		for range d.below(3) {
			switch d.below(4) {
			case 0:
				g.Wide = int8(d.below(12) - 1)
			case 1:
				g.High = int8(d.below(12) - 1)
			case 2:
				g.Heights[d.below(9)][d.below(9)] = []int16{-1, 0, 200, 201}[d.below(4)]
			case 3:
				at := d.below(len(g.Gullies) + 1)
				g.Gullies = slices.Insert(g.Gullies, at, cell(int8(d.below(11)-1), int8(d.below(11)-1)))
			}
		}
		got := impl.ValidGround(g)
		if got != isGroundRight(g) {
			t.Fatalf("ValidGround of %v: %v", g, got)
		}
		if got {
			valid++
		}
	}
	if valid < 10000 || valid > 30000 {
		t.Errorf("%d grounds were valid", valid)
	}
}

// TestNotValidGroundComesFirst calls each function with grounds that are not
// valid, and with other arguments that are wrong as well.
func TestNotValidGroundComesFirst(t *testing.T) {
	calls := wholeCalls()
	for _, at := range append(notPoints(exampleGround()), cell(0, 0)) {
		calls = append(calls, pointCalls(at)...)
	}
	for _, n := range []int64{0, 1, -1, 9, 201, -201, math.MinInt64, math.MaxInt64} {
		calls = append(calls, numberCalls(n)...)
	}
	for name, g := range notGrounds() {
		for _, c := range calls {
			check(t, c.name+" of "+name, c.call(g), coded(c.zeros, 1))
		}
		without := g
		without.Gullies = nil
		if !isGroundRight(without) {
			for _, c := range calls {
				check(t, c.name+" of "+name+", without gullies", c.call(without), coded(c.zeros, 1))
			}
		}
		check(t, "GroundText of "+name, impl.GroundText(g), "")
	}
}

func TestRangeOfPoints(t *testing.T) {
	for i, g := range someGrounds() {
		for _, at := range notPoints(g) {
			for _, c := range pointCalls(at) {
				check(t, fmt.Sprint(c.name, " of ", i, " at ", at), c.call(g), coded(c.zeros, 2))
			}
		}
		count := int64(len(g.Gullies))
		for _, n := range []int64{-1, count, count + 1, 256, 1 << 32, math.MinInt64, math.MaxInt64} {
			check(t, fmt.Sprint("BasinOf of ", i, ", ", n), all(impl.BasinOf(g, n)), "[[] 2]")
		}
	}
}

func TestSameGround(t *testing.T) {
	list := append(someGrounds(), exampleGround())
	for _, g := range notGrounds() {
		if len(g.Gullies) < 100 {
			list = append(list, g)
		}
	}
	var printed []string
	for _, g := range list {
		printed = append(printed, fmt.Sprint(g))
	}
	same := 0
	for i, a := range list {
		for k, b := range list {
			want := printed[i] == printed[k]
			if got := impl.SameGround(a, b); got != want {
				t.Fatalf("SameGround of %v and %v: %v", a, b, got)
			}
			if want {
				same++
			}
		}
	}
	if same < len(list)+2 {
		t.Errorf("only %d pairs of %d grounds were equal", same, len(list))
	}
	g := exampleGround()
	for y := range 9 {
		for x := range 9 {
			other := g
			other.Heights[y][x]++
			check(t, fmt.Sprint("one height is another one: ", x, ", ", y), all(impl.SameGround(g, other), impl.SameGround(other, g), impl.SameGround(other, other)), "[false false true]")
		}
	}
	for name, other := range map[string]impl.Ground{
		"no gullies":       gullied(),
		"another gully":    gullied(cell(2, 1)),
		"one gully more":   gullied(cell(2, 2), cell(2, 2)),
		"one gully before": gullied(cell(0, 0), cell(2, 2)),
		"another width":    edited(func(g *impl.Ground) { g.Wide = 4 }),
		"another height":   edited(func(g *impl.Ground) { g.High = 2 }),
	} {
		check(t, name, all(impl.SameGround(g, other), impl.SameGround(other, g), impl.SameGround(other, other)), "[false false true]")
	}
	empty := gullied([]impl.Cell{}...)
	empty.Gullies = []impl.Cell{}
	check(t, "nil and empty", all(impl.SameGround(gullied(), empty), impl.SameGround(empty, gullied())), "[true true]")
}

// checkRun checks that water gets lower with each step to a point beside the
// one before, and that it goes on until it goes away or stands.
func checkRun(t *testing.T, name string, g impl.Ground, at impl.Cell, run []impl.Cell) {
	t.Helper()
	if len(run) == 0 || run[0] != at {
		t.Fatalf("%s begins elsewhere: %v", name, run)
	}
	for i, c := range run {
		if i > 0 && (!areBeside(run[i-1], c) || heightOf(g, c) >= heightOf(g, run[i-1])) {
			t.Errorf("%s: %v gets no lower from %v on", name, run, run[i-1])
		}
		isGully := slices.Contains(g.Gullies, c)
		isLowest := !slices.ContainsFunc(besidePoints(g, c), func(d impl.Cell) bool { return heightOf(g, d) < heightOf(g, c) })
		if ends := isGully || isLowest; ends != (i == len(run)-1) {
			t.Errorf("%s: %v ends at the wrong point", name, run)
		}
	}
}

// Promise 9: water that runs gets lower; from all points of many grounds.
func TestWaterThatRunsGetsLower(t *testing.T) {
	falls, ends := 0, 0
	for i, g := range someGrounds() {
		for _, at := range pointsOf(g) {
			name := fmt.Sprint(" of ", i, " at ", at)
			run, code := impl.RunFrom(g, at)
			check(t, "RunFrom"+name, all(run, code), all(runOf(g, at), 0))
			checkRun(t, "RunFrom"+name, g, at, run)
			if to, by := fallOf(g, at); by > 0 {
				check(t, "FallAt"+name, all(impl.FallAt(g, at)), all(to, by, 0))
				falls++
			} else {
				check(t, "FallAt"+name, all(impl.FallAt(g, at)), all(cell(0, 0), 0, 6))
			}
			if gully := gullyOf(g, at); gully >= 0 {
				check(t, "DrainsTo"+name, all(impl.DrainsTo(g, at)), all(gully, 0))
				ends++
			} else {
				check(t, "DrainsTo"+name, all(impl.DrainsTo(g, at)), "[0 6]")
			}
		}
	}
	if falls < 4000 || ends < 1200 {
		t.Errorf("only %d points had a fall, and water of only %d went away", falls, ends)
	}
}

// TestWaterAtEqualHeights has points beside one that are equally high: water
// runs to the first one of them, and to none that is as high as its own point.
func TestWaterAtEqualHeights(t *testing.T) {
	middle := cell(1, 1)
	for name, c := range map[string]struct {
		g    impl.Ground
		at   impl.Cell
		want []any
	}{
		"all four lower":            {ground("9 4 9", "4 5 4", "9 4 9"), middle, all(cell(1, 0), 1, 0)},
		"north is less low":         {ground("9 4 9", "3 5 3", "9 3 9"), middle, all(cell(0, 1), 2, 0)},
		"west before east":          {ground("9 9 9", "3 5 3", "9 9 9"), middle, all(cell(0, 1), 2, 0)},
		"west before south":         {ground("9 9 9", "3 5 9", "9 3 9"), middle, all(cell(0, 1), 2, 0)},
		"east before south":         {ground("9 9 9", "9 5 3", "9 3 9"), middle, all(cell(2, 1), 2, 0)},
		"north before east":         {ground("9 3 9", "9 5 3", "9 9 9"), middle, all(cell(1, 0), 2, 0)},
		"the last one is lowest":    {ground("9 4 9", "4 5 4", "9 3 9"), middle, all(cell(1, 2), 2, 0)},
		"east is lowest":            {ground("9 4 9", "4 5 0", "9 4 9"), middle, all(cell(2, 1), 5, 0)},
		"across is not beside":      {ground("0 5 0", "5 5 5", "0 5 0"), middle, all(cell(0, 0), 0, 6)},
		"all as high":               {ground("5 5 5", "5 5 5", "5 5 5"), middle, all(cell(0, 0), 0, 6)},
		"one is lower, others not":  {ground("5 5 5", "5 5 5", "5 4 5"), middle, all(cell(1, 2), 1, 0)},
		"a gully as high":           {ground("5 5g 5", "5g 5 5g", "5 5g 5"), middle, all(cell(0, 0), 0, 6)},
		"a gully as low as another": {ground("9 4 9", "9 5 9", "9 4g 9"), middle, all(cell(1, 0), 1, 0)},
		"a gully less low":          {ground("9 4g 9", "9 5 9", "9 3 9"), middle, all(cell(1, 2), 2, 0)},
		"a gully itself":            {ground("9 4 9", "9 5g 9", "9 3 9"), middle, all(cell(0, 0), 0, 6)},
		"the edge to the west":      {ground("9 9 9", "5 9 9", "9 9 9"), cell(0, 1), all(cell(0, 0), 0, 6)},
		"not over an edge":          {ground("1 2 0", "2 2 0", "0 0 0"), cell(0, 0), all(cell(0, 0), 0, 6)},
		"nothing is beside it":      {ground("200"), cell(0, 0), all(cell(0, 0), 0, 6)},
		"a gully alone":             {ground("200g"), cell(0, 0), all(cell(0, 0), 0, 6)},
		"by as much as can be":      {ground("0 200"), cell(1, 0), all(cell(0, 0), 200, 0)},
	} {
		check(t, "FallAt: "+name, all(impl.FallAt(c.g, c.at)), c.want)
	}
	g := ground("3 3 3 3", "3 2 2 3", "3 2 1g 3")
	check(t, "no way over points as high", all(impl.RunFrom(g, cell(0, 1))), all([]impl.Cell{cell(0, 1), cell(1, 1)}, 0))
	check(t, "water stands there", all(impl.DrainsTo(g, cell(0, 1))), "[0 6]")
	check(t, "water runs elsewhere", all(impl.DrainsTo(g, cell(2, 0))), "[0 0]")
	check(t, "all that stand", all(impl.StandsAt(g)), all([]impl.Cell{cell(0, 0), cell(3, 0), cell(1, 1)}, 0))
	check(t, "from a gully", all(impl.RunFrom(g, cell(2, 2))), all([]impl.Cell{cell(2, 2)}, 0))
	check(t, "a gully has itself", all(impl.DrainsTo(ground("2g 1g"), cell(1, 0))), "[1 0]")
	check(t, "the gully on the way", all(impl.DrainsTo(ground("3 2g 1g"), cell(0, 0))), "[0 0]")
}

// TestBasinsAreAllPoints: each point is in one basin, or its water stands
// somewhere.
func TestBasinsAreAllPoints(t *testing.T) {
	for i, g := range someGrounds() {
		basins := make([][]impl.Cell, len(g.Gullies))
		stood := 0
		for _, at := range pointsOf(g) {
			if gully := gullyOf(g, at); gully >= 0 {
				basins[gully] = append(basins[gully], at)
			} else {
				stood++
			}
		}
		sum := 0
		for k, want := range basins {
			got, code := impl.BasinOf(g, int64(k))
			check(t, fmt.Sprint("BasinOf of ", i, ", ", k), all(got, code), all(want, 0))
			sum += len(got)
		}
		check(t, "all points", sum+stood, len(pointsOf(g)))
		check(t, fmt.Sprint("StandsAt of ", i), all(impl.StandsAt(g)), all(standing(g), 0))
	}
	check(t, "a gully's basin of one point", all(impl.BasinOf(level(3, 2, 7, cell(1, 1)), 0)), all([]impl.Cell{cell(1, 1)}, 0))
	check(t, "water stands at all others", all(impl.StandsAt(level(3, 2, 7, cell(1, 1)))), "[[{0 0} {1 0} {2 0} {0 1} {2 1}] 0]")
	check(t, "water stands nowhere", all(impl.StandsAt(ground("2g 1g"))), "[[] 0]")
}

func TestSteepestFallAndFlatSteps(t *testing.T) {
	for i, g := range someGrounds() {
		check(t, fmt.Sprint("SteepestFall of ", i), all(impl.SteepestFall(g)), steepest(g))
		check(t, fmt.Sprint("FlatSteps of ", i), all(impl.FlatSteps(g)), all(flats(g), 0))
	}
	for name, c := range map[string]struct {
		g    impl.Ground
		want []any
	}{
		"one point":                    {ground("200"), all(cell(0, 0), cell(0, 0), 0, 6)},
		"all as high":                  {level(9, 9, 5), all(cell(0, 0), cell(0, 0), 0, 6)},
		"higher to the east":           {ground("1 2"), all(cell(1, 0), cell(0, 0), 1, 0)},
		"higher to the south":          {ground("0", "200"), all(cell(0, 1), cell(0, 0), 200, 0)},
		"across is not beside":         {ground("0 5", "5 7"), all(cell(1, 0), cell(0, 0), 5, 0)},
		"the first higher point":       {ground("1 0 0", "0 0 1"), all(cell(0, 0), cell(1, 0), 1, 0)},
		"higher first, lower last":     {ground("0 5", "5 0"), all(cell(1, 0), cell(0, 0), 5, 0)},
		"the first lower point":        {ground("9 4 9", "4 9 4", "9 4 9"), all(cell(0, 0), cell(1, 0), 5, 0)},
		"the first of four lower ones": {ground("4 4 4", "4 9 4", "4 4 4"), all(cell(1, 1), cell(1, 0), 5, 0)},
		"west before east":             {ground("6 6 6", "4 9 4", "6 4 6"), all(cell(1, 1), cell(0, 1), 5, 0)},
		"east before south":            {ground("6 6 6", "6 9 4", "6 4 6"), all(cell(1, 1), cell(2, 1), 5, 0)},
		"higher points by Y, then X":   {ground("3 3 8", "8 3 3"), all(cell(2, 0), cell(1, 0), 5, 0)},
		"gullies are points, too":      {ground("1 9g", "0g 1"), all(cell(1, 0), cell(0, 0), 8, 0)},
		"by one, far away":             {edited(func(g *impl.Ground) { *g = level(9, 9, 3); g.Heights[8][8] = 2 }), all(cell(8, 7), cell(8, 8), 1, 0)},
	} {
		check(t, "SteepestFall: "+name, all(impl.SteepestFall(c.g)), c.want)
	}
	check(t, "no steps", all(impl.FlatSteps(ground("3"))), "[0 0]")
	check(t, "no flat steps", all(impl.FlatSteps(ground("3 4", "4 3"))), "[0 0]")
	check(t, "all steps", all(impl.FlatSteps(level(9, 9, 7))), "[144 0]")
	check(t, "gullies are points, too", all(impl.FlatSteps(ground("7g 7", "7 7g"))), "[4 0]")
	check(t, "to the east, and to the south", all(impl.FlatSteps(ground("7 7 1", "2 7 3"))), "[2 0]")
}

// Promise 10: a ground that has been dried has no pools; its levels are those
// of a second program.
func TestDriedGroundsHaveNoPools(t *testing.T) {
	pools := 0
	for i, g := range someGrounds() {
		if len(g.Gullies) == 0 {
			continue
		}
		levels, sum, lower := levelsOf(g)
		if sum > 0 {
			pools++
		}
		check(t, fmt.Sprint("FillLevels of ", i), all(impl.FillLevels(g)), all(levels, 0))
		check(t, fmt.Sprint("PoolSum of ", i), all(impl.PoolSum(g)), all(sum, 0))
		want := impl.Ground{Wide: g.Wide, High: g.High, Heights: levels, Gullies: g.Gullies}
		dried, raised, code := impl.DrySquare(g)
		check(t, fmt.Sprint("DrySquare of ", i), all(dried, raised, code), all(want, lower, 0))
		if !impl.ValidGround(dried) {
			t.Errorf("ground %d is not valid when it is dried", i)
		}
		check(t, fmt.Sprint("pools of ", i, " when it is dried"), all(impl.PoolSum(dried)), "[0 0]")
		again, raised, code := impl.DrySquare(dried)
		check(t, fmt.Sprint("ground ", i, " dried again"), all(again, raised, code), all(dried, 0, 0))
		check(t, fmt.Sprint("levels of ", i, " when it is dried"), all(impl.FillLevels(dried)), all(levels, 0))
	}
	if pools < 150 {
		t.Errorf("only %d grounds had pools", pools)
	}
}

// TestLevelsBesideEachOther: no level is lower than its point, or than all of
// those beside it, over one of which each way has to go; and it is no higher.
func TestLevelsBesideEachOther(t *testing.T) {
	for i, g := range someGrounds() {
		levels, code := impl.FillLevels(g)
		if code != impl.OK {
			continue
		}
		for _, c := range pointsOf(g) {
			own := int64(levels[c.Y][c.X])
			if slices.Contains(g.Gullies, c) {
				check(t, fmt.Sprint("the level of a gully of ", i), own, heightOf(g, c))
				continue
			}
			least := int64(math.MaxInt64)
			for _, d := range besidePoints(g, c) {
				least = min(least, int64(levels[d.Y][d.X]))
			}
			check(t, fmt.Sprint("the level of ", i, " at ", c), own, max(least, heightOf(g, c)))
		}
	}
}

func TestLevelsOfSomeKinds(t *testing.T) {
	for name, c := range map[string]struct {
		g        impl.Ground
		want     impl.Ground
		sum, dry int
	}{
		"one gully":                    {ground("7g"), ground("7g"), 0, 0},
		"a gully is high":              {ground("1 9g 2"), ground("9 9g 9"), 15, 2},
		"a gully is low":               {ground("1 0g 2"), ground("1 0g 2"), 0, 0},
		"the lower one of two gullies": {ground("9g 1 5g"), ground("9g 5 5g"), 4, 1},
		"a gully beside a gully":       {ground("9g 1g 5"), ground("9g 1g 5"), 0, 0},
		"not across":                   {ground("0g 9", "9 0"), ground("0g 9", "9 9"), 9, 1},
		"the lower way is longer":      {ground("0 9 0g", "0 9 0", "2 1 0"), ground("2 9 0g", "2 9 0", "2 1 0"), 4, 2},
		"two pools":                    {ground("1 5 2 7 0g"), ground("7 7 7 7 0g"), 13, 3},
		"a pool within a pool":         {ground("5 5 5 5", "5 3 5 5", "5 4 2 6", "5 5 5 6g"), ground("6 6 6 6", "6 6 6 6", "6 6 6 6", "6 6 6 6g"), 20, 14},
		"equal heights run over":       {ground("4 4 4", "4 4 4", "4 4 4g"), ground("4 4 4", "4 4 4", "4 4 4g"), 0, 0},
		"as deep as can be":            {ground("0 200g"), ground("200 200g"), 200, 1},
		"through the maze": {maze(), ground(
			"7 7 7 7 7 7 7 7 7",
			"9 9 9 9 9 9 9 9 7",
			"5 5 5 5 5 5 5 9 7",
			"5 9 9 9 9 9 5 9 7",
			"5 9 5 5 0g 9 5 9 7",
			"5 9 5 9 9 9 5 9 7",
			"5 9 5 5 5 5 5 9 7",
			"5 9 9 9 9 9 9 9 7",
			"5 7 7 7 7 7 7 7 7"), 219, 46},
	} {
		check(t, "FillLevels: "+name, all(impl.FillLevels(c.g)), all(c.want.Heights, 0))
		check(t, "PoolSum: "+name, all(impl.PoolSum(c.g)), all(c.sum, 0))
		check(t, "DrySquare: "+name, all(impl.DrySquare(c.g)), all(c.want, c.dry, 0))
	}
	for i, g := range someGrounds() {
		g.Gullies = nil
		check(t, fmt.Sprint("FillLevels of ", i, " without gullies"), all(impl.FillLevels(g)), all(noHeights, 6))
		check(t, fmt.Sprint("PoolSum of ", i, " without gullies"), all(impl.PoolSum(g)), "[0 6]")
		check(t, fmt.Sprint("DrySquare of ", i, " without gullies"), all(impl.DrySquare(g)), all(impl.Ground{}, 0, 6))
	}
}

// TestFewestGullies lays the gullies that are told, as far as there may be so
// many: water stands nowhere then, but it does where any of them lacks.
func TestFewestGullies(t *testing.T) {
	laid := 0
	for i, g := range someGrounds() {
		without := g
		without.Gullies = nil
		got, code := impl.FewestGullies(g)
		check(t, fmt.Sprint("FewestGullies of ", i), all(got, code), all(standing(without), 0))
		check(t, fmt.Sprint("StandsAt of ", i, " without gullies"), all(impl.StandsAt(without)), all(got, 0))
		if len(got) > 8 {
			continue
		}
		laid++
		with := without
		with.Gullies = got
		check(t, fmt.Sprint("StandsAt of ", i, " with its gullies"), all(impl.StandsAt(with)), "[[] 0]")
		for k := range got {
			with.Gullies = slices.Delete(slices.Clone(got), k, k+1)
			check(t, fmt.Sprint("StandsAt of ", i, " where one lacks"), all(impl.StandsAt(with)), all(got[k:k+1], 0))
		}
	}
	if laid < 100 {
		t.Errorf("only %d grounds had few gullies", laid)
	}
	flat := level(9, 9, 7, cell(0, 0))
	check(t, "all points as high", all(impl.FewestGullies(flat)), all(pointsOf(flat), 0))
	check(t, "another gully", all(impl.FewestGullies(ground("3g 2 1"))), "[[{2 0}] 0]")
	check(t, "two points as low", all(impl.FewestGullies(ground("3 1 1 3"))), "[[{1 0} {2 0}] 0]")
	check(t, "one point", all(impl.FewestGullies(ground("0g"))), "[[{0 0}] 0]")
}

func TestSlopeGround(t *testing.T) {
	d := dice(52)
	slopes, steep := 0, 0
	for _, from := range someGrounds() {
		if len(from.Gullies) == 0 {
			continue
		}
		for _, fall := range []int64{0, 1, int64(d.below(26)), int64(d.below(201)), 200} {
			want := level(from.Wide, from.High, 0, from.Gullies...)
			code := impl.OK
			for c, steps := range stepsTo(from) {
				if steps*fall > 200 {
					code = impl.ErrLimit
				} else {
					want.Heights[c.Y][c.X] = int16(steps * fall)
				}
			}
			name := fmt.Sprint("SlopeGround of ", from.Wide, " by ", from.High, ", ", from.Gullies, ", ", fall)
			got, gotCode := impl.SlopeGround(int64(from.Wide), int64(from.High), from.Gullies, fall)
			if code != impl.OK {
				steep++
				check(t, name, all(got, gotCode), all(impl.Ground{}, code))
				continue
			}
			slopes++
			check(t, name, all(got, gotCode), all(want, 0))
			if fall > 0 {
				check(t, name+" keeps its fall", all(impl.KeepsFall(got, fall)), "[true 0]")
				check(t, name+" has no short points", all(impl.FirstShort(got, fall)), "[{0 0} 6]")
			}
		}
	}
	if slopes < 500 || steep < 200 {
		t.Errorf("there were only %d slopes, and %d that were too steep", slopes, steep)
	}
	check(t, "two gullies", all(impl.SlopeGround(5, 1, []impl.Cell{cell(0, 0), cell(4, 0)}, 7)), all(ground("0g 7 14 7 0g"), 0))
	check(t, "a height that is reached", all(impl.SlopeGround(9, 9, []impl.Cell{cell(4, 4)}, 25)), all(edited(func(g *impl.Ground) {
		*g = hill(9, 9, cell(4, 4), 0, -25)
		g.Gullies = []impl.Cell{cell(4, 4)}
	}), 0))
}

func TestErrorsOfSlopeGround(t *testing.T) {
	corner := []impl.Cell{cell(0, 0)}
	nine := make([]impl.Cell, 9)
	for i := range nine {
		nine[i].X = int8(i)
	}
	for name, c := range map[string]struct {
		wide, high int64
		gullies    []impl.Cell
		fall       int64
		code       int
	}{
		"not wide":                      {0, 1, corner, 1, 2},
		"not high":                      {1, 0, corner, 1, 2},
		"too wide":                      {10, 1, corner, 1, 2},
		"too high":                      {1, 10, corner, 1, 2},
		"wide below 0":                  {-1, 1, corner, 1, 2},
		"1 by 8 bits":                   {257, 1, corner, 1, 2},
		"1 by 8 bits to the south":      {1, -255, corner, 1, 2},
		"1 by 32 bits":                  {1<<32 + 1, 1<<32 + 1, corner, 1, 2},
		"the greatest number":           {math.MaxInt64, 1, corner, 1, 2},
		"the least number":              {1, math.MinInt64, corner, 1, 2},
		"a fall below 0":                {3, 3, corner, -1, 2},
		"a fall too great":              {3, 3, corner, 201, 2},
		"a fall too great for no steps": {1, 1, corner, 201, 2},
		"the greatest fall":             {3, 3, corner, math.MaxInt64, 2},
		"the least fall":                {3, 3, corner, math.MinInt64, 2},
		"a gully beyond":                {3, 3, []impl.Cell{cell(3, 0)}, 1, 2},
		"a gully to the north":          {3, 3, []impl.Cell{cell(0, -1)}, 1, 2},
		"the last gully beyond":         {3, 3, []impl.Cell{cell(0, 0), cell(0, 3)}, 1, 2},
		"one gully twice":               {3, 3, []impl.Cell{cell(1, 0), cell(1, 0)}, 1, 2},
		"gullies in wrong order":        {3, 3, []impl.Cell{cell(0, 1), cell(1, 0)}, 1, 2},
		"9 gullies":                     {9, 1, nine, 1, 2},
		"a million gullies":             {9, 9, make([]impl.Cell, 1000000), 1, 2},
		"no gullies, not wide":          {0, 1, nil, 1, 2},
		"no gullies, fall below 0":      {1, 1, nil, -1, 2},
		"no gullies":                    {9, 9, nil, 1, 6},
		"no gullies, too steep":         {9, 9, []impl.Cell{}, 200, 6},
		"no gullies, no fall":           {9, 9, nil, 0, 6},
		"too steep":                     {9, 9, corner, 13, 3},
		"too steep, 256 by 8 bits":      {9, 9, corner, 16, 3},
		"too steep by 1":                {3, 3, []impl.Cell{cell(1, 1)}, 101, 3},
		"far too steep":                 {9, 9, corner, 200, 3},
		"too steep, and fall too great": {9, 9, corner, 201, 2},
	} {
		check(t, "SlopeGround: "+name, all(impl.SlopeGround(c.wide, c.high, c.gullies, c.fall)), all(impl.Ground{}, c.code))
	}
	for name, c := range map[string]struct {
		wide, high int64
		gullies    []impl.Cell
		fall       int64
	}{
		"8 gullies":           {9, 9, nine[:8], 1},
		"one point":           {1, 1, corner, 200},
		"steep, by 1 step":    {2, 1, corner, 200},
		"steep, by 2 steps":   {3, 3, []impl.Cell{cell(1, 1)}, 100},
		"steep, by 16 steps":  {9, 9, corner, 12},
		"no fall at all":      {9, 9, corner, 0},
		"gullies by Y, and X": {2, 2, []impl.Cell{cell(1, 0), cell(0, 1)}, 200},
	} {
		got, code := impl.SlopeGround(c.wide, c.high, c.gullies, c.fall)
		check(t, "SlopeGround: "+name, all(code, impl.ValidGround(got), isGroundRight(got)), "[0 true true]")
	}
}

func TestKeepsFallAndFirstShort(t *testing.T) {
	kept, short := 0, 0
	for i, g := range someGrounds() {
		for _, fall := range []int64{1, 2, 3, 5, 12, 25, 100, 199, 200} {
			name := fmt.Sprint(" of ", i, ", ", fall)
			if list := shortPoints(g, fall); len(list) > 0 {
				short++
				check(t, "KeepsFall"+name, all(impl.KeepsFall(g, fall)), "[false 0]")
				check(t, "FirstShort"+name, all(impl.FirstShort(g, fall)), all(list[0], 0))
			} else {
				kept++
				check(t, "KeepsFall"+name, all(impl.KeepsFall(g, fall)), "[true 0]")
				check(t, "FirstShort"+name, all(impl.FirstShort(g, fall)), "[{0 0} 6]")
			}
		}
	}
	if kept < 50 || short < 1000 {
		t.Errorf("%d falls were kept, and %d were not", kept, short)
	}
	for _, n := range []int64{0, -1, 201, 257, 1<<32 + 1, math.MinInt64, math.MaxInt64} {
		for _, g := range []impl.Ground{exampleGround(), ground("0g"), ground("0")} {
			for _, c := range fallCalls(n) {
				check(t, fmt.Sprint(c.name, " with the fall ", n), c.call(g), coded(c.zeros, 2))
			}
		}
	}
}

// TestShortPointsOfSomeKinds has falls that are just reached, and those of
// points that are equally high.
func TestShortPointsOfSomeKinds(t *testing.T) {
	for name, c := range map[string]struct {
		g    impl.Ground
		fall int64
		want []any
	}{
		"just reached":             {ground("5 3 0g"), 2, all(cell(0, 0), 6)},
		"short by 1":               {ground("5 3 0g"), 3, all(cell(0, 0), 0)},
		"the first one is short":   {ground("5 5 0g"), 1, all(cell(0, 0), 0)},
		"a later one is short":     {ground("7 6 4g", "4 4 4"), 2, all(cell(0, 1), 0)},
		"all of one height":        {level(3, 3, 5, cell(0, 0)), 1, all(cell(1, 0), 0)},
		"a gully is not short":     {ground("0g"), 200, all(cell(0, 0), 6)},
		"a high gully is not":      {ground("9g 3g"), 200, all(cell(0, 0), 6)},
		"one point":                {ground("0"), 1, all(cell(0, 0), 0)},
		"as great as can be":       {ground("0g 200"), 200, all(cell(0, 0), 6)},
		"less than can be":         {ground("0g 199"), 200, all(cell(1, 0), 0)},
		"the lowest one of them":   {ground("9 8 9", "7 9 5", "9 6 9g"), 4, all(cell(0, 0), 0)},
		"water stands in the end":  {ground("5 3 1"), 2, all(cell(2, 0), 0)},
		"no gully that is lower":   {ground("5g 3 5g"), 1, all(cell(1, 0), 0)},
		"lower across, not beside": {ground("0g 5", "5 5"), 1, all(cell(1, 1), 0)},
	} {
		check(t, "FirstShort: "+name, all(impl.FirstShort(c.g, c.fall)), c.want)
		check(t, "KeepsFall: "+name, all(impl.KeepsFall(c.g, c.fall)), all(fmt.Sprint(c.want[1]) == "6", 0))
	}
}

func TestRaiseAll(t *testing.T) {
	d := dice(53)
	raised, not := 0, 0
	for i, g := range someGrounds() {
		for _, by := range []int64{0, 1, -1, 200, -200, int64(d.below(401) - 200), int64(d.below(41) - 20)} {
			want, code := g, impl.OK
			for _, c := range pointsOf(g) {
				if sum := heightOf(g, c) + by; sum < 0 || sum > 200 {
					code = impl.ErrLimit
				}
				want.Heights[c.Y][c.X] += int16(by)
			}
			if code == impl.OK {
				raised++
			} else {
				not++
				want = impl.Ground{}
			}
			check(t, fmt.Sprint("RaiseAll of ", i, " by ", by), all(impl.RaiseAll(g, by)), all(want, code))
		}
		for _, by := range []int64{201, -201, 256, 1 << 16, 1 << 32, math.MinInt64, math.MinInt64 + 1, math.MaxInt64} {
			check(t, fmt.Sprint("RaiseAll of ", i, " by ", by), all(impl.RaiseAll(g, by)), all(impl.Ground{}, 2))
		}
	}
	if raised < 500 || not < 500 {
		t.Errorf("%d grounds were raised, %d were not", raised, not)
	}
	check(t, "as high as can be", all(impl.RaiseAll(ground("0g 3"), 197)), all(ground("197g 200"), 0))
	check(t, "higher than can be", all(impl.RaiseAll(ground("0g 3"), 198)), all(impl.Ground{}, 3))
	check(t, "as low as can be", all(impl.RaiseAll(ground("5g 3"), -3)), all(ground("2g 0"), 0))
	check(t, "lower than can be", all(impl.RaiseAll(ground("5g 3"), -4)), all(impl.Ground{}, 3))
	check(t, "all that can be", all(impl.RaiseAll(level(9, 9, 0), 200)), all(level(9, 9, 200), 0))
	check(t, "back again", all(impl.RaiseAll(level(9, 9, 200), -200)), all(level(9, 9, 0), 0))
}

func TestMirrorGround(t *testing.T) {
	for i, g := range someGrounds() {
		want := impl.Ground{Wide: g.Wide, High: g.High}
		for _, c := range pointsOf(g) {
			from := cell(g.Wide-1-c.X, c.Y)
			want.Heights[c.Y][c.X] = g.Heights[from.Y][from.X]
			if slices.Contains(g.Gullies, from) {
				want.Gullies = append(want.Gullies, c)
			}
		}
		got, code := impl.MirrorGround(g)
		check(t, fmt.Sprint("MirrorGround of ", i), all(got, code), all(want, 0))
		check(t, fmt.Sprint("ground ", i, " mirrored twice"), all(impl.MirrorGround(got)), all(g, 0))
	}
	check(t, "gullies in their order", all(impl.MirrorGround(ground("1g 2 3g 4g", "5 6g 7 8"))), all(ground("4g 3g 2 1g", "8 7 6g 5"), 0))
}

func TestGroundText(t *testing.T) {
	for i, g := range someGrounds() {
		s := groundText(g)
		check(t, fmt.Sprint("GroundText of ", i), impl.GroundText(g), s)
		check(t, fmt.Sprint("ReadGround of ", i), all(impl.ReadGround(s)), all(g, 0))
		if !isGroundText(s) {
			t.Errorf("%q is no text", s)
		}
	}
	check(t, "one point", impl.GroundText(ground("0g")), "0g\n")
	check(t, "several rows", impl.GroundText(ground("0g 200", "17 200g")), "0g 200\n17 200g\n")
	check(t, "limits that are reached", readGround(t, "200g 200g 200g 200g 200g 200g 200g 200g 200", "0 0 0 0 0 0 0 0 0", "0 0 0 0 0 0 0 0 0", "0 0 0 0 0 0 0 0 0", "0 0 0 0 0 0 0 0 0", "0 0 0 0 0 0 0 0 0", "0 0 0 0 0 0 0 0 0", "0 0 0 0 0 0 0 0 0", "0 0 0 0 0 0 0 0 0").Gullies, pointsOf(level(8, 1, 0)))
}

func TestReadGroundOfNoText(t *testing.T) {
	row := "1 1 1 1 1 1 1 1 1"
	list := []string{
		"", "\n", "\n\n", " ", " \n", "x", "x\n", "g\n", "3", "3 2", "3 2\n1", "3 2\n1 0", "3\n\n", "\n3\n", "3 2\n\n1 0\n", "3\r\n", "3\n2\n\n",
		" 3\n", "3 \n", "3  2\n", "3\t2\n", "3 2 \n1 0 \n", "3,2\n", "03\n", "00\n", "+3\n", "-3\n", "-0\n", "3.0\n", "1e1\n", "0x1\n", "1_0\n", "3gg\n", "g3\n", "3 g\n", "3G\n",
		"3g2\n", "3 2\n1\n", "3\n2 1\n", "3 2\n1 0 0\n", "3 2 1\n1 0\n", "3 2\n1 0g 0\n", "201\n", "-1\n", "256\n", "65536\n", "65539\n", "4294967299\n", "99999999999999999999\n",
		"1g 1g 1g 1g 1g 1g 1g 1g 1g\n", "1 1 1 1 1 1 1 1 1 1\n", "1 1 1 1 1 1 1 1 1 0\n", strings.Repeat("1\n", 10), strings.Repeat("0\n", 10), text(slices.Repeat([]string{row}, 10)...),
		"3 2\n1 0\n\x00", "\xff\n", "３\n", "3\u00a02\n", "3 2\n1 0\ng", "3 2\n1 0\n ", "3 2\n1 0\n0", "none\n", "3 2 3\n2 1 2\n3 3 0g", "3 2 3 2 1 2 3 3 0g 1\n",
	}
	for _, s := range list {
		check(t, fmt.Sprintf("ReadGround of %q", s), all(impl.ReadGround(s)), all(impl.Ground{}, 5))
		if isGroundText(s) {
			t.Errorf("%q is a text", s)
		}
	}
	check(t, "9 rows", all(impl.ReadGround(text(slices.Repeat([]string{row}, 9)...))), all(level(9, 9, 1), 0))
}

// TestReadGroundOfChangedTexts changes single bytes of texts, takes them away,
// and adds some.
func TestReadGroundOfChangedTexts(t *testing.T) {
	d := dice(54)
	good := 0
	for _, g := range someGrounds() {
		from := groundText(g)
		for range 60 {
			s := changed(&d, from, "0123456789 g\n-+")
			good += checkRead(t, s, isGroundText(s), impl.ReadGround, impl.GroundText)
		}
	}
	if good < 2000 {
		t.Errorf("only %d texts were good", good)
	}
}

// Promise 1: no function modifies its arguments, and all results are equal for
// equal arguments, in memory of their own.
func TestGroundsArePure(t *testing.T) {
	list := someGrounds()
	for _, g := range notGrounds() {
		if len(g.Gullies) < 100 {
			list = append(list, g)
		}
	}
	for i, g := range list {
		g.Gullies = roomy(g.Gullies, cell(7, 7))
		calls := append(wholeCalls(), pointCalls(cell(0, 0))...)
		calls = append(calls, pointCalls(cell(g.Wide-1, g.High-1))...)
		for _, n := range []int64{0, 1, 5, -3} {
			calls = append(calls, numberCalls(n)...)
		}
		for _, fall := range []int64{0, 1, 200} {
			calls = append(calls, groundCall{"SlopeGround", func(g impl.Ground) []any {
				return all(impl.SlopeGround(int64(g.Wide), int64(g.High), g.Gullies, fall))
			}, nil})
		}
		calls = append(calls, groundCall{"ValidGround", func(g impl.Ground) []any { return all(impl.ValidGround(g)) }, nil})
		calls = append(calls, groundCall{"SameGround", func(g impl.Ground) []any { return all(impl.SameGround(g, g)) }, nil})
		calls = append(calls, groundCall{"GroundText", func(g impl.Ground) []any { return all(impl.GroundText(g)) }, nil})
		for _, c := range calls {
			checkPure(t, fmt.Sprint(c.name, " of ", i), all(g), func() []any { return c.call(g) })
		}
		if isGroundRight(g) {
			s := groundText(g)
			checkPure(t, fmt.Sprint("ReadGround of ", i), all(s), func() []any { return all(impl.ReadGround(s)) })
		}
	}
}

// Promise 1: functions return for great arguments, too.
func TestGroundsOfManyElements(t *testing.T) {
	many := gullied(make([]impl.Cell, 1000000)...)
	for _, c := range slices.Concat(wholeCalls(), pointCalls(cell(0, 0)), numberCalls(1)) {
		check(t, c.name, c.call(many), coded(c.zeros, 1))
	}
	check(t, "ValidGround", impl.ValidGround(many), false)
	check(t, "SameGround", all(impl.SameGround(many, many), impl.SameGround(many, exampleGround())), "[true false]")
	check(t, "GroundText", impl.GroundText(many), "")
	check(t, "SlopeGround", all(impl.SlopeGround(9, 9, many.Gullies, 1)), all(impl.Ground{}, 2))
	for _, s := range []string{"1", "1 ", "1\n", "g", " ", "\n", "1g ", "1g\n", "\xff", "1 1 1\n"} {
		long := strings.Repeat(s, 1000000/len(s))
		check(t, "ReadGround of much", all(impl.ReadGround(long)), all(impl.Ground{}, 5))
		check(t, "ReadGround of much behind", all(impl.ReadGround("1 1 1\n"+long)), all(impl.Ground{}, 5))
	}
}

// TestExampleOfGrounds is the example of the document.
func TestExampleOfGrounds(t *testing.T) {
	g := readGround(t, "3 2 3", "2 1 2", "3 3 0g")
	check(t, "ground", g, exampleGround())
	check(t, "run", all(impl.RunFrom(g, cell(0, 0))), "[[{0 0} {1 0} {1 1}] 0]")
	check(t, "fall", all(impl.FallAt(g, cell(0, 0))), "[{1 0} 1 0]")
	check(t, "water stands", all(impl.StandsAt(g)), "[[{1 1}] 0]")
	check(t, "it goes away nowhere", all(impl.DrainsTo(g, cell(0, 0))), "[0 6]")
	check(t, "levels", all(impl.FillLevels(g)), all(ground("3 2 3", "2 2 2", "3 3 0").Heights, 0))
	check(t, "pools", all(impl.PoolSum(g)), "[1 0]")
	check(t, "dried", all(impl.DrySquare(g)), all(ground("3 2 3", "2 2 2", "3 3 0g"), 1, 0))
	check(t, "gullies", all(impl.FewestGullies(g)), "[[{1 1} {2 2}] 0]")
	check(t, "steepest", all(impl.SteepestFall(g)), "[{1 2} {2 2} 3 0]")
}
