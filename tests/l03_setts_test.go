package tests

import (
	"fmt"
	"math"
	"slices"
	"strings"
	"testing"

	"loop.example/g01383/impl"
)

// readSetts returns the setts with a text.
func readSetts(t *testing.T, text string) []impl.Sett {
	t.Helper()
	list, code := impl.ReadSetts(text)
	if code != impl.OK {
		t.Fatalf("ReadSetts of %q: %d", text, code)
	}
	return list
}

// longsBeyond returns numbers that are no lengths of rows.
func longsBeyond() []int64 {
	return []int64{0, 401, -1, 256 * 256, 1<<32 + 1, math.MinInt64, math.MaxInt64}
}

// jointsBeyond returns numbers that are no widths of joints.
func jointsBeyond() []int64 {
	return []int64{-1, 6, 256, 1<<32 + 1, math.MinInt64, math.MaxInt64}
}

// rowCall is a function with setts, a length and a joint, and all results but
// the code that come with an error.
type rowCall struct {
	name  string
	call  func(list []impl.Sett, long, joint int64) []any
	zeros []any
}

func rowCalls() []rowCall {
	return []rowCall{
		{"FillRow", func(list []impl.Sett, long, joint int64) []any { return all(impl.FillRow(list, long, joint)) }, all("[]", 0)},
		{"WaysToFill", func(list []impl.Sett, long, joint int64) []any { return all(impl.WaysToFill(list, long, joint)) }, all(0)},
		{"CutRow", func(list []impl.Sett, long, joint int64) []any { return all(impl.CutRow(list, long, joint)) }, all("[]", 0)},
		{"RowsFrom", func(list []impl.Sett, long, joint int64) []any { return all(impl.RowsFrom(list, long, joint)) }, all(0)},
		{"FewestSorts", func(list []impl.Sett, long, joint int64) []any {
			return all(impl.FewestSorts(list, []int64{long}, joint))
		}, all(0)},
		{"FewestSorts, the last one of two", func(list []impl.Sett, long, joint int64) []any {
			return all(impl.FewestSorts(list, []int64{1, long}, joint))
		}, all(0)},
	}
}

func TestLimitsOfSetts(t *testing.T) {
	check(t, "limits", all(impl.MaxSorts, impl.MaxSettWide, impl.MaxCount, impl.MaxRowLong, impl.MaxJoint, impl.MaxBow), "[6 20 60 400 5 40]")
}

func TestValidSetts(t *testing.T) {
	for i, list := range slices.Concat(fewSetts(), manySetts()) {
		if !areSettsRight(list) || !impl.ValidSetts(list) {
			t.Fatalf("setts %d are not valid: %v", i, list)
		}
	}
	for name, list := range notSetts() {
		if areSettsRight(list) || impl.ValidSetts(list) {
			t.Errorf("%s: valid", name)
		}
	}
	check(t, "limits that are reached", impl.ValidSetts(setts(1, 0, 16, 60, 17, 60, 18, 60, 19, 60, 20, 60)), true)
}

// TestValidSettsOfAnyNumbers tries numbers around those that are valid.
func TestValidSettsOfAnyNumbers(t *testing.T) {
	d := dice(31)
	valid := 0
	for range 30000 {
		var list []impl.Sett
		for range d.below(8) {
			list = append(list, setts(d.below(22), d.below(62))...)
		}
		if d.below(4) > 0 {
			slices.SortFunc(list, func(a, b impl.Sett) int { return int(a.Wide) - int(b.Wide) })
		}
		got := impl.ValidSetts(list)
		if got != areSettsRight(list) {
			t.Fatalf("ValidSetts of %v: %v", list, got)
		}
		if got && len(list) > 2 {
			valid++
		}
	}
	if valid < 1000 {
		t.Errorf("only %d lists were valid", valid)
	}
}

// TestNotValidSettsComeFirst calls each function with setts that are not valid,
// and with other arguments that are wrong as well.
func TestNotValidSettsComeFirst(t *testing.T) {
	for name, list := range notSetts() {
		for _, c := range rowCalls() {
			check(t, c.name+" of "+name, c.call(list, 4, 1), coded(c.zeros, 1))
			check(t, c.name+" of "+name+", wrong length", c.call(list, 0, 1), coded(c.zeros, 1))
			check(t, c.name+" of "+name+", wrong joint", c.call(list, 4, -1), coded(c.zeros, 1))
		}
		check(t, "LayRow of "+name, all(impl.LayRow(list, make([]int64, len(list)))), "[[] 1]")
		check(t, "LayRow of "+name+", wrong counts", all(impl.LayRow(list, []int64{-1})), "[[] 1]")
		check(t, "LayRow of "+name+", no counts", all(impl.LayRow(list, nil)), "[[] 1]")
		check(t, "FewestSorts of "+name+", no lengths", all(impl.FewestSorts(list, nil, 1)), "[0 1]")
		check(t, "FewestSorts of "+name+", 9 lengths", all(impl.FewestSorts(list, make([]int64, 9), 9)), "[0 1]")
		check(t, "SettsText of "+name, impl.SettsText(list), "")
	}
}

// TestRangeOfRowsComesSecond calls functions with lengths and joints that are
// out of range, also where no row could be filled.
func TestRangeOfRowsComesSecond(t *testing.T) {
	for _, list := range [][]impl.Sett{exampleSetts(), setts(20, 0)} {
		for _, c := range rowCalls() {
			for _, n := range longsBeyond() {
				check(t, fmt.Sprint(c.name, " as long as ", n), c.call(list, n, 1), coded(c.zeros, 2))
			}
			for _, n := range jointsBeyond() {
				check(t, fmt.Sprint(c.name, " with the joint ", n), c.call(list, 34, n), coded(c.zeros, 2))
			}
		}
	}
	ones := setts(1, 60, 10, 60)
	for _, c := range rowCalls() {
		for _, n := range [][2]int64{{1, 0}, {1, 5}, {400, 0}, {391, 5}} {
			got := c.call(ones, n[0], n[1])
			check(t, fmt.Sprint(c.name, " at limits that are reached: ", n), got[len(got)-1], 0)
		}
	}
}

// Promise 7: rows that are filled are just as long as told, and no fewer setts
// fill them; all counts are tried.
func TestFillRowOfAllCounts(t *testing.T) {
	filled, several := 0, 0
	for i, list := range fewSetts() {
		for joint := int64(0); joint <= 5; joint++ {
			by := fillings(list, joint)
			for long := int64(1); long <= 400; long++ {
				f := by[long]
				name := fmt.Sprint(" of ", i, ", ", long, " long, joint ", joint)
				check(t, "WaysToFill"+name, all(impl.WaysToFill(list, long, joint)), all(f.ways, 0))
				counts, number, code := impl.FillRow(list, long, joint)
				if f.ways == 0 {
					check(t, "FillRow"+name, all(counts, number, code), "[[] 0 6]")
					continue
				}
				filled++
				if f.ways > 1 {
					several++
				}
				check(t, "FillRow"+name, all(counts, number, code), all(f.counts, f.number, 0))
				check(t, "how long FillRow is"+name, longOf(rowWith(list, counts), joint), long)
			}
		}
	}
	if filled < 10000 || several < 5000 {
		t.Errorf("only %d rows were filled, %d of them in several ways", filled, several)
	}
}

// Promise 7: the same of many setts, of which not all counts can be tried.
func TestFillRowOfManySetts(t *testing.T) {
	for i, list := range manySetts() {
		sums := sumsOf(list)
		for long := 1; long <= 400; long += 1 + long%7 {
			joint := (long*7 + i) % 6
			f := fillingBy(list, sums, long, joint)
			want := all(f.counts, f.number, 0)
			if f.ways == 0 {
				want = all("[]", 0, 6)
			}
			name := fmt.Sprint(" of ", i, ", ", long, " long, joint ", joint)
			check(t, "FillRow"+name, all(impl.FillRow(list, int64(long), int64(joint))), want)
			check(t, "WaysToFill"+name, all(impl.WaysToFill(list, int64(long), int64(joint))), all(f.ways, 0))
		}
	}
}

func TestFillRowOfSomeKinds(t *testing.T) {
	for name, c := range map[string]struct {
		list        []impl.Sett
		long, joint int64
		want        []any
	}{
		"one sett has no joint":            {setts(7, 3), 7, 5, all([]int64{1}, 1, 0)},
		"a joint behind the last is none":  {setts(7, 3), 8, 1, all("[]", 0, 6)},
		"two setts have one joint":         {setts(7, 3), 15, 1, all([]int64{2}, 2, 0)},
		"all that there are":               {setts(7, 3), 31, 5, all([]int64{3}, 3, 0)},
		"one more than there are":          {setts(7, 3), 43, 5, all("[]", 0, 6)},
		"no joints":                        {setts(20, 20), 400, 0, all([]int64{20}, 20, 0)},
		"60 of a sort":                     {setts(5, 60), 300, 0, all([]int64{60}, 60, 0)},
		"61 of a sort":                     {setts(5, 60), 305, 0, all("[]", 0, 6)},
		"many setts of several sorts":      {setts(1, 60, 2, 60, 3, 60), 360, 0, all([]int64{60, 60, 60}, 180, 0)},
		"none there":                       {setts(1, 0), 1, 0, all("[]", 0, 6)},
		"none of the greatest sort":        {setts(4, 5, 8, 0), 8, 0, all([]int64{2, 0}, 2, 0)},
		"fewest, not greatest first":       {setts(1, 9, 6, 9, 10, 9), 12, 0, all([]int64{0, 2, 0}, 2, 0)},
		"of several ones the first list":   {setts(2, 9, 4, 9, 6, 9), 8, 0, all([]int64{0, 2, 0}, 2, 0)},
		"the first list where some lack":   {setts(2, 9, 4, 1, 6, 9), 8, 0, all([]int64{1, 0, 1}, 2, 0)},
		"joints count by setts, not sorts": {setts(1, 9, 3, 9), 11, 2, all([]int64{1, 2}, 3, 0)},
	} {
		check(t, "FillRow: "+name, all(impl.FillRow(c.list, c.long, c.joint)), c.want)
	}
	check(t, "in no way", all(impl.WaysToFill(setts(7, 3), 8, 1)), "[0 0]")
	check(t, "in one way", all(impl.WaysToFill(setts(7, 3), 7, 5)), "[1 0]")
}

func TestCutRow(t *testing.T) {
	cuts, lacks := 0, 0
	for i, list := range slices.Concat(fewSetts(), manySetts()) {
		for long := int64(1); long <= 400; long++ {
			joint := (long + int64(i)) % 6
			name := fmt.Sprint("CutRow of ", i, ", ", long, " long, joint ", joint)
			counts, off, code := impl.CutRow(list, long, joint)
			check(t, name, all(counts, off, code), cutRow(list, long, joint))
			if code == impl.ErrNotFound {
				lacks++
				continue
			}
			if off > 0 {
				cuts++
			}
			if over := longOf(rowWith(list, counts), joint) - off - long; over > 0 || over < -joint || off > 0 && over != 0 {
				t.Errorf("%s: %v less %d is too long by %d", name, counts, off, over)
			}
		}
	}
	if cuts < 4000 || lacks < 4000 {
		t.Errorf("only %d rows were cut, and %d were not to be found", cuts, lacks)
	}
}

func TestCutRowOfSomeKinds(t *testing.T) {
	for name, c := range map[string]struct {
		list        []impl.Sett
		long, joint int64
		want        []any
	}{
		"nothing is left":                        {setts(4, 9), 14, 1, all([]int64{3}, 0, 0)},
		"the joint alone is left":                {setts(4, 9), 18, 2, all([]int64{3}, 0, 0)},
		"less than the joint is left":            {setts(4, 9), 17, 2, all([]int64{3}, 0, 0)},
		"1 more than the joint is left":          {setts(4, 9), 19, 2, all([]int64{4}, 3, 0)},
		"cut, no joint":                          {setts(4, 9), 15, 0, all([]int64{4}, 1, 0)},
		"the first sett is cut, no joint before": {setts(4, 9), 3, 5, all([]int64{1}, 1, 0)},
		"the first sett is cut to 1":             {setts(20, 9), 1, 5, all([]int64{1}, 19, 0)},
		"the first sett fits":                    {setts(4, 9), 4, 5, all([]int64{1}, 0, 0)},
		"the least that is as wide":              {setts(2, 9, 5, 9, 8, 9, 9, 9), 9 + 1 + 1, 1, all([]int64{1, 0, 0, 1}, 1, 0)},
		"none is left of the least":              {setts(2, 0, 5, 0, 8, 9, 9, 9), 9 + 1 + 1, 1, all([]int64{0, 0, 1, 1}, 7, 0)},
		"one more of the greatest than fit":      {setts(5, 1, 9, 9), 9 + 1 + 5 + 1 + 2, 1, all([]int64{1, 2}, 7, 0)},
		"the last sett of a sort is cut":         {setts(9, 2), 9 + 1 + 3, 1, all([]int64{2}, 6, 0)},
		"no sett is left":                        {setts(9, 1), 9 + 1 + 3, 1, all("[]", 0, 6)},
		"all are too narrow":                     {setts(2, 9, 3, 1), 400, 5, all("[]", 0, 6)},
		"none is there":                          {setts(9, 0), 5, 1, all("[]", 0, 6)},
		"none is there, no more than a joint":    {setts(9, 0), 5, 5, all("[]", 0, 6)},
	} {
		check(t, "CutRow: "+name, all(impl.CutRow(c.list, c.long, c.joint)), c.want)
	}
}

func TestLayRow(t *testing.T) {
	d := dice(32)
	for i, list := range slices.Concat(fewSetts(), manySetts()) {
		for range 20 {
			counts := make([]int64, len(list))
			for k, s := range list {
				counts[k] = int64(d.below(int(s.Count) + 1))
			}
			row, code := impl.LayRow(list, counts)
			check(t, fmt.Sprint("LayRow of ", i, " by ", counts), all(row, code), all(laidRow(list, counts), 0))
			slices.Sort(row)
			check(t, "setts laid", row, rowWith(list, counts))
		}
		none := make([]int64, len(list))
		check(t, "LayRow of none", all(impl.LayRow(list, none)), "[[] 0]")
	}
	ones := setts(1, 60, 2, 60, 3, 60, 4, 60, 5, 60, 6, 60)
	row, code := impl.LayRow(ones, []int64{60, 60, 60, 60, 60, 60})
	check(t, "LayRow of all setts", all(row, code), all(slices.Repeat([]int64{6, 5, 4, 3, 2, 1}, 60), 0))
	check(t, "one sort lasts", all(impl.LayRow(ones, []int64{0, 3, 0, 1, 0, 0})), "[[4 2 2 2] 0]")
}

func TestErrorsOfLayRow(t *testing.T) {
	list := exampleSetts()
	for name, counts := range map[string][]int64{
		"no counts":                         nil,
		"too few":                           {1, 2},
		"too many":                          {1, 2, 1, 0},
		"a million":                         make([]int64, 1000000),
		"too few, and more than there are":  {11, 2},
		"below 0":                           {1, 2, -1},
		"61":                                {61, 2, 1},
		"256":                               {1, 256, 1},
		"0 by 32 bits":                      {1, 1 << 32, 1},
		"the greatest number":               {1, math.MaxInt64, 1},
		"the least number":                  {1, math.MinInt64, 1},
		"more than there are, and below 0":  {11, 2, -1},
		"more than there are, and above 60": {11, 11, 61},
	} {
		check(t, "LayRow: "+name, all(impl.LayRow(list, counts)), "[[] 2]")
	}
	for name, counts := range map[string][]int64{
		"one more than there are":     {11, 2, 1},
		"one more of the last one":    {0, 0, 4},
		"60":                          {0, 60, 0},
		"more of all than there are":  {60, 60, 60},
		"one more of those not there": {1, 2, 3, 1},
	} {
		with := list
		if len(counts) == 4 {
			with = append(exampleSetts(), impl.Sett{Wide: 20})
		}
		check(t, "LayRow: "+name, all(impl.LayRow(with, counts)), "[[] 4]")
	}
	row, code := impl.LayRow(list, []int64{10, 10, 3})
	check(t, "just as many as there are", all(len(row), code), "[23 0]")
}

func TestRowsFrom(t *testing.T) {
	several := 0
	for i, list := range fewSetts() {
		if i%3 == 2 && i > 20 {
			continue
		}
		for joint := int64(0); joint <= 5; joint += 1 + int64(i%3) {
			for _, long := range []int64{1, 2, 3, 5, 8, 12, 13, 20, 34, 50, 101, 400} {
				want := rowsFrom(list, long, joint)
				if want > 1 {
					several++
				}
				check(t, fmt.Sprint("RowsFrom of ", i, ", ", long, " long, joint ", joint), all(impl.RowsFrom(list, long, joint)), all(want, 0))
			}
		}
	}
	if several < 300 {
		t.Errorf("only %d times there were several rows", several)
	}
	ones := setts(1, 60, 2, 60, 3, 60, 4, 60, 5, 60, 6, 60)
	check(t, "no row", all(impl.RowsFrom(exampleSetts(), 2, 1)), "[0 0]")
	check(t, "60 rows", all(impl.RowsFrom(ones, 1, 5)), "[60 0]")
	check(t, "rows of 2, and then of 1 and 1", all(impl.RowsFrom(ones, 2, 0)), "[90 0]")
	check(t, "rows of other counts", all(impl.RowsFrom(setts(2, 4, 3, 2, 4, 1), 6, 0)), "[3 0]")
	check(t, "long rows", all(impl.RowsFrom(setts(20, 60), 400, 0)), "[3 0]")
}

// countedLengths returns some lengths.
func countedLengths(d *dice, count, most int) []int64 {
	longs := make([]int64, count)
	for i := range longs {
		longs[i] = int64(1 + d.below(most))
	}
	return longs
}

func TestFewestSorts(t *testing.T) {
	d := dice(33)
	found := map[int64]int{}
	for i, list := range fewSetts() {
		joint := int64(i % 6)
		choices := choicesOf(list, joint)
		for k := range 40 {
			longs := countedLengths(&d, k%9, []int{12, 40, 400}[k%3])
			want := fewestSorts(choices, longs)
			found[want]++
			name := fmt.Sprint("FewestSorts of ", i, ", lengths ", longs, ", joint ", joint)
			if want < 0 {
				check(t, name, all(impl.FewestSorts(list, longs, joint)), "[0 6]")
			} else {
				check(t, name, all(impl.FewestSorts(list, longs, joint)), all(want, 0))
			}
		}
	}
	if found[-1] < 100 || found[1] < 100 || found[2] < 50 || found[3] < 10 {
		t.Errorf("the numbers of sorts were too plain: %v", found)
	}
}

func TestFewestSortsOfSomeKinds(t *testing.T) {
	list := exampleSetts()
	check(t, "no lengths", all(impl.FewestSorts(list, nil, 1)), "[0 0]")
	check(t, "no lengths, no setts", all(impl.FewestSorts(setts(4, 0), []int64{}, 1)), "[0 0]")
	check(t, "no lengths, wrong joint", all(impl.FewestSorts(list, nil, 6)), "[0 2]")
	check(t, "each row with all setts", all(impl.FewestSorts(setts(9, 1), []int64{9, 9, 9, 9, 9, 9, 9, 9}, 1)), "[1 0]")
	check(t, "9 lengths", all(impl.FewestSorts(list, slices.Repeat([]int64{9}, 9), 1)), "[0 3]")
	check(t, "limit before not found", all(impl.FewestSorts(list, slices.Repeat([]int64{1}, 9), 1)), "[0 3]")
	check(t, "range before limit", all(impl.FewestSorts(list, []int64{9, 9, 9, 9, 9, 9, 9, 9, 9, 401}, 1)), "[0 2]")
	check(t, "range before not found", all(impl.FewestSorts(list, []int64{1, 0}, 1)), "[0 2]")
	check(t, "joint before limit", all(impl.FewestSorts(list, slices.Repeat([]int64{9}, 9), -1)), "[0 2]")
	check(t, "one that cannot be filled", all(impl.FewestSorts(list, []int64{9, 1}, 1)), "[0 6]")
	check(t, "all sorts", all(impl.FewestSorts(setts(1, 1, 2, 1, 4, 1, 8, 1, 16, 1, 20, 1), []int64{51}, 0)), "[6 0]")
	check(t, "two rows, two sorts", all(impl.FewestSorts(setts(4, 9, 6, 9, 9, 9), []int64{4, 6}, 1)), "[2 0]")
	many := setts(1, 60, 2, 60, 3, 60, 4, 60, 5, 60, 6, 60)
	check(t, "many setts", all(impl.FewestSorts(many, []int64{400, 399, 398, 397, 396, 395, 394, 393}, 0)), "[2 0]")
}

// jointCall is a function with a row and a joint, and what comes with an error.
type jointCall struct {
	name  string
	call  func(row []int64, joint int64) []any
	zeros []any
}

func jointCalls() []jointCall {
	other := []int64{4, 9}
	return []jointCall{
		{"JointsOf", func(row []int64, joint int64) []any { return all(impl.JointsOf(row, joint)) }, all("[]")},
		{"CommonJoints, the first one", func(row []int64, joint int64) []any { return all(impl.CommonJoints(row, other, joint)) }, all("[]")},
		{"CommonJoints, the second one", func(row []int64, joint int64) []any { return all(impl.CommonJoints(other, row, joint)) }, all("[]")},
		{"BestTurn, the first one", func(row []int64, joint int64) []any { return all(impl.BestTurn(row, other, joint)) }, all(0, 0)},
		{"BestTurn, the second one", func(row []int64, joint int64) []any { return all(impl.BestTurn(other, row, joint)) }, all(0, 0)},
	}
}

func TestRangeOfJoints(t *testing.T) {
	for _, c := range jointCalls() {
		for name, row := range notRows() {
			check(t, c.name+": "+name, c.call(row, 1), coded(c.zeros, 2))
			check(t, c.name+": "+name+", wrong joint", c.call(row, 6), coded(c.zeros, 2))
		}
		for _, joint := range jointsBeyond() {
			check(t, fmt.Sprint(c.name, " with the joint ", joint), c.call([]int64{9, 4}, joint), coded(c.zeros, 2))
		}
		for i, row := range someRows() {
			for joint := int64(0); joint <= 5; joint++ {
				got := c.call(row, joint)
				check(t, fmt.Sprint(c.name, " of the row ", i), got[len(got)-1], 0)
			}
		}
	}
	for name, row := range notRows() {
		check(t, "TurnRow: "+name, all(impl.TurnRow(row, 0)), "[[] 2]")
	}
}

func TestJointsOf(t *testing.T) {
	for i, row := range someRows() {
		for joint := int64(0); joint <= 5; joint++ {
			got, code := impl.JointsOf(row, joint)
			check(t, fmt.Sprint("JointsOf of ", i, ", joint ", joint), all(got, code), all(joints(row, joint), 0))
			check(t, "how many joints", len(got), len(row)-1)
		}
	}
	check(t, "of one sett", all(impl.JointsOf([]int64{9}, 5)), "[[] 0]")
	check(t, "left ends", all(impl.JointsOf([]int64{9, 6, 4, 6}, 5)), "[[9 20 29] 0]")
	check(t, "joints that have no width", all(impl.JointsOf([]int64{9, 6, 4, 6}, 0)), "[[9 15 19] 0]")
}

func TestCommonJoints(t *testing.T) {
	some := 0
	rows := someRows()
	for i, a := range rows {
		for k, b := range rows {
			joint := int64((i + k) % 6)
			want := common(joints(a, joint), joints(b, joint))
			if len(want) > 0 && i != k {
				some++
			}
			check(t, fmt.Sprint("CommonJoints of ", i, k), all(impl.CommonJoints(a, b, joint)), all(want, 0))
		}
		check(t, fmt.Sprint("with itself: ", i), all(impl.CommonJoints(a, a, 2)), all(joints(a, 2), 0))
	}
	if some < 1000 {
		t.Errorf("only %d rows had common joints", some)
	}
	check(t, "ends are no joints", all(impl.CommonJoints([]int64{4, 4}, []int64{9}, 1)), "[[] 0]")
	check(t, "an end at a joint", all(impl.CommonJoints([]int64{4, 4, 4}, []int64{4, 4}, 1)), "[[4] 0]")
	check(t, "joints that overlap have other places", all(impl.CommonJoints([]int64{4, 4}, []int64{5, 4}, 5)), "[[] 0]")
}

// TestTurnRow also checks that a row that is turned has the same setts.
func TestTurnRow(t *testing.T) {
	for i, row := range someRows() {
		for by := range row {
			got, code := impl.TurnRow(row, int64(by))
			check(t, fmt.Sprint("TurnRow of ", i, " by ", by), all(got, code), all(turnedRow(row, by), 0))
			check(t, "the same setts", slices.Sorted(slices.Values(got)), slices.Sorted(slices.Values(row)))
		}
		n := int64(len(row))
		for _, by := range []int64{-1, n, n + 1, 60, 256 + n - 1, 1 << 32, math.MinInt64, math.MaxInt64} {
			check(t, fmt.Sprint("TurnRow of ", i, " by ", by), all(impl.TurnRow(row, by)), "[[] 2]")
		}
	}
}

func TestBestTurn(t *testing.T) {
	turned, bad := 0, 0
	rows := someRows()
	for i, a := range rows {
		for k := range 12 {
			b := rows[(i*k+k)%len(rows)]
			joint := int64((i + k) % 6)
			least, best := int64(-1), 0
			for by := range b {
				if n := int64(len(common(joints(a, joint), joints(turnedRow(b, by), joint)))); least < 0 || n < least {
					least, best = n, by
				}
			}
			if best > 0 {
				turned++
			}
			if least > 0 {
				bad++
			}
			check(t, fmt.Sprint("BestTurn of ", a, " and ", b, ", joint ", joint), all(impl.BestTurn(a, b, joint)), all(best, least, 0))
		}
	}
	if turned < 100 || bad < 50 {
		t.Errorf("only %d rows were turned, and %d had common joints", turned, bad)
	}
	check(t, "the least of several", all(impl.BestTurn([]int64{4, 9}, []int64{9, 4, 3}, 1)), "[0 0 0]")
	check(t, "b is turned, not a", all(impl.BestTurn([]int64{2, 2, 1}, []int64{2, 1, 1, 1}, 1)), "[2 0 0]")
	check(t, "one sett", all(impl.BestTurn([]int64{9, 4}, []int64{13}, 1)), "[0 0 0]")
	check(t, "all turns are as bad", all(impl.BestTurn([]int64{4, 4, 4}, []int64{4, 4, 4}, 1)), "[0 2 0]")
}

func TestValidBow(t *testing.T) {
	for i, bow := range someBows() {
		if !isBowRight(bow) || !impl.ValidBow(bow) {
			t.Fatalf("bow %d is not valid: %v", i, bow)
		}
	}
	for name, bow := range notBows() {
		if isBowRight(bow) || impl.ValidBow(bow) {
			t.Errorf("%s: valid", name)
		}
	}
}

// allLines returns all lists of a length, of numbers below another one.
func allLines(length, below int) [][]int64 {
	lines := [][]int64{nil}
	for range length {
		var longer [][]int64
		for _, line := range lines {
			for n := range int64(below) {
				longer = append(longer, append(slices.Clone(line), n))
			}
		}
		lines = longer
	}
	return lines
}

// tops returns the points that are higher than the one before, and not lower
// than the one behind.
func tops(line []int64) []int64 {
	var list []int64
	for i := range line {
		if i > 0 && i+1 < len(line) && line[i-1] < line[i] && line[i+1] <= line[i] {
			list = append(list, int64(i))
		}
	}
	return list
}

// Promise 8: no point of a bow is lower than its ends; a bow rises up to its
// top, and falls behind it.
func checkArched(t *testing.T, name string, bow []int64) {
	t.Helper()
	n := len(bow)
	if n < 3 || bow[n/2] < bow[0] || bow[n/2] < bow[n-1] || bow[(n-1)/2] < bow[0] {
		t.Errorf("%s: %v is lower in the middle", name, bow)
		return
	}
	top := slices.Index(bow, slices.Max(bow))
	falling := slices.Clone(bow[top:])
	slices.Reverse(falling)
	if !slices.IsSorted(bow[:top+1]) || !slices.IsSorted(falling) {
		t.Errorf("%s: %v has a dip", name, bow)
	}
}

// Promise 8, of all short lines: those that are lower in the middle are no bows.
func TestBowsOfAllShortLines(t *testing.T) {
	bows := 0
	for length := range 8 {
		for _, line := range allLines(length, 4) {
			valid := impl.ValidBow(line)
			if valid != isBowRight(line) {
				t.Fatalf("ValidBow of %v: %v", line, valid)
			}
			if valid {
				bows++
				checkArched(t, "ValidBow", line)
			}
			check(t, fmt.Sprint("TopsOf ", line), all(impl.TopsOf(line)), all(tops(line), 0))
		}
	}
	if bows < 50 {
		t.Errorf("only %d bows were valid", bows)
	}
}

// Promise 8, of all bows that are made.
func TestMakeBow(t *testing.T) {
	states := 0
	for wide := int64(2); wide <= 39; wide++ {
		for rise := int64(0); rise <= 1000; rise++ {
			var want []int64
			for k := range wide + 1 {
				height, whole := int64(0), 4*rise*k*(wide-k)
				for height = whole / wide / wide; (height+1)*wide*wide <= whole; height++ {
				}
				want = append(want, height)
			}
			bow, code := impl.MakeBow(wide, rise)
			if isBowRight(want) {
				if code != impl.OK || !slices.Equal(bow, want) || !impl.ValidBow(bow) {
					t.Errorf("MakeBow of %d and %d: %v, %d", wide, rise, bow, code)
				}
				checkArched(t, "MakeBow", bow)
				continue
			}
			states++
			if code != impl.ErrState || len(bow) > 0 {
				t.Errorf("MakeBow of %d and %d: %v, %d", wide, rise, bow, code)
			}
		}
	}
	if states < 1000 || states > 37000 {
		t.Errorf("%d bows were not valid", states)
	}
	for _, n := range []int64{1, 0, -1, -2, 40, 41, 258, 1<<32 + 4, math.MinInt64, math.MaxInt64} {
		check(t, fmt.Sprint("MakeBow as wide as ", n), all(impl.MakeBow(n, 8)), "[[] 2]")
		check(t, fmt.Sprint("MakeBow as wide as ", n, ", wrong rise"), all(impl.MakeBow(n, -1)), "[[] 2]")
	}
	for _, n := range []int64{-1, 1001, 1<<32 + 8, math.MinInt64, math.MaxInt64} {
		check(t, fmt.Sprint("MakeBow with the rise ", n), all(impl.MakeBow(4, n)), "[[] 2]")
		check(t, fmt.Sprint("MakeBow with the rise ", n, ", no bow"), all(impl.MakeBow(38, n)), "[[] 2]")
	}
	check(t, "the least width, the greatest rise", all(impl.MakeBow(2, 1000)), "[[0 1000 0] 0]")
	check(t, "rounded down", all(impl.MakeBow(3, 8)), "[[0 7 7 0] 0]")
	check(t, "no rise", all(impl.MakeBow(4, 0)), "[[0 0 0 0 0] 0]")
	check(t, "rounded to no bow", all(impl.MakeBow(38, 1)), "[[] 4]")
}

func TestBowFrom(t *testing.T) {
	for i, bow := range someBows() {
		var steps []int64
		for k := range bow[1:] {
			steps = append(steps, bow[k+1]-bow[k])
		}
		got, code := impl.BowFrom(steps)
		check(t, fmt.Sprint("BowFrom of ", i), all(got, code), all(bow, 0))
		checkArched(t, "BowFrom", got)
		if !slices.Equal(steps, slices.Repeat(steps[:1], len(steps))) {
			slices.Reverse(steps)
			check(t, fmt.Sprint("BowFrom, steps that become greater ", i), all(impl.BowFrom(steps)), "[[] 4]")
		}
	}
	for _, line := range allLines(4, 6) {
		heights, steps := []int64{0}, []int64{}
		for i, n := range line {
			steps = append(steps, n-3)
			heights = append(heights, heights[i]+n-3)
		}
		want := all("[]", 4)
		if isBowRight(heights) {
			want = all(heights, 0)
		}
		check(t, fmt.Sprint("BowFrom of ", steps), all(impl.BowFrom(steps)), want)
	}
	for name, steps := range map[string][]int64{
		"no steps":                   nil,
		"one step":                   {0},
		"40 steps":                   make([]int64, 40),
		"a million steps":            make([]int64, 1000000),
		"too high":                   {1001, -1001},
		"not down to 0":              {6, 2, -2, -5},
		"below 0":                    {6, 2, -2, -7},
		"around, back to 0":          {math.MaxInt64, math.MaxInt64, 2, 0},
		"around, by the least":       {math.MinInt64, math.MinInt64},
		"around, by a quarter":       {1 << 62, 1 << 62, 1 << 62, 1 << 62},
		"around, from a height":      {1000, math.MaxInt64, -math.MaxInt64, -1000},
		"around, by less and less":   {5, math.MinInt64, math.MinInt64, -5},
		"the greatest and the least": {math.MaxInt64, math.MinInt64},
	} {
		check(t, "BowFrom: "+name, all(impl.BowFrom(steps)), "[[] 4]")
	}
	check(t, "39 steps", all(impl.BowFrom(make([]int64, 39))), all(make([]int64, 40), 0))
	check(t, "two steps", all(impl.BowFrom([]int64{1000, -1000})), "[[0 1000 0] 0]")
}

func TestJoinBows(t *testing.T) {
	bows := someBows()
	d := dice(34)
	for i := range 200 {
		var some [][]int64
		want := []int64{0}
		for range 1 + i%10 {
			some = append(some, bows[d.below(len(bows))])
			want = append(want, some[len(some)-1][1:]...)
		}
		check(t, fmt.Sprint("JoinBows of ", i), all(impl.JoinBows(some)), all(want, 0))
		check(t, fmt.Sprint("tops of ", i), all(impl.TopsOf(want)), all(tops(want), 0))
	}
	wide := slices.Repeat([][]int64{make([]int64, 40)}, 10)
	check(t, "as long as can be", all(impl.JoinBows(wide)), all(make([]int64, 391), 0))
	check(t, "11 bows", all(impl.JoinBows(append(wide, []int64{0, 0, 0}))), "[[] 3]")
	check(t, "no bows", all(impl.JoinBows(nil)), "[[] 6]")
	check(t, "no bows", all(impl.JoinBows([][]int64{})), "[[] 6]")
	check(t, "one bow", all(impl.JoinBows(bows[2:3])), "[[0 6 8 6 0] 0]")
	check(t, "many bows", all(impl.JoinBows(slices.Repeat([][]int64{{0, 0, 0}}, 300000))), "[[] 3]")
	for name, bow := range notBows() {
		check(t, "JoinBows: "+name, all(impl.JoinBows([][]int64{bow})), "[[] 1]")
		check(t, "JoinBows, the last one: "+name, all(impl.JoinBows([][]int64{{0, 1, 0}, bow})), "[[] 1]")
		check(t, "JoinBows, the first one: "+name, all(impl.JoinBows([][]int64{bow, {0, 1, 0}})), "[[] 1]")
		check(t, "JoinBows, invalid before limit: "+name, all(impl.JoinBows(append(wide, bow))), "[[] 1]")
	}
}

func TestTopsOf(t *testing.T) {
	d := dice(35)
	for i := range 300 {
		var line []int64
		for range d.below(401) {
			line = append(line, int64(d.below([]int{2, 5, 1001}[i%3])))
		}
		check(t, fmt.Sprint("TopsOf ", i), all(impl.TopsOf(line)), all(tops(line), 0))
	}
	for name, c := range map[string]struct {
		line []int64
		want string
	}{
		"no points":                      {nil, "[[] 0]"},
		"one point":                      {[]int64{5}, "[[] 0]"},
		"both ends have but one beside":  {[]int64{5, 3, 4}, "[[] 0]"},
		"a level top, told by its first": {[]int64{0, 8, 8, 8, 0}, "[[1] 0]"},
		"a step up is no top":            {[]int64{0, 5, 6, 0}, "[[2] 0]"},
		"a step on the way up":           {[]int64{0, 5, 5, 6, 0}, "[[1 3] 0]"},
		"a step on the way down":         {[]int64{0, 6, 5, 5, 0}, "[[1] 0]"},
		"heights that are reached":       {[]int64{0, 1000, 0}, "[[1] 0]"},
		"400 points":                     {make([]int64, 400), "[[] 0]"},
		"401 points":                     {make([]int64, 401), "[[] 2]"},
		"a million points":               {make([]int64, 1000000), "[[] 2]"},
		"the first one below 0":          {[]int64{-1, 5, 0}, "[[] 2]"},
		"the last one below 0":           {[]int64{0, 5, -1}, "[[] 2]"},
		"the first one too high":         {[]int64{1001, 5, 0}, "[[] 2]"},
		"the last one too high":          {[]int64{0, 5, 1001}, "[[] 2]"},
		"the only one too high":          {[]int64{1001}, "[[] 2]"},
		"the greatest number":            {[]int64{0, math.MaxInt64, 0}, "[[] 2]"},
		"the least number":               {[]int64{0, math.MinInt64, 0}, "[[] 2]"},
		"0 by 32 bits":                   {[]int64{0, 1 << 32, 0}, "[[] 2]"},
	} {
		check(t, "TopsOf: "+name, all(impl.TopsOf(c.line)), c.want)
	}
}

func TestOffsetBow(t *testing.T) {
	for i, bow := range someBows() {
		var want []int64
		middle := len(bow) / 2
		for k := range bow {
			at := middle + k
			if at >= len(bow) {
				at -= len(bow) - 1
			}
			want = append(want, bow[at])
		}
		check(t, fmt.Sprint("OffsetBow of ", i), all(impl.OffsetBow(bow)), all(want, 0))
	}
	check(t, "of 5 points", all(impl.OffsetBow([]int64{0, 6, 8, 7, 0})), "[[8 7 0 6 8] 0]")
	check(t, "of 4 points", all(impl.OffsetBow([]int64{0, 6, 7, 0})), "[[7 0 6 7] 0]")
	check(t, "of 3 points", all(impl.OffsetBow([]int64{0, 6, 0})), "[[6 0 6] 0]")
	for name, bow := range notBows() {
		check(t, "OffsetBow: "+name, all(impl.OffsetBow(bow)), "[[] 1]")
	}
}

func TestSettsText(t *testing.T) {
	for i, list := range slices.Concat(fewSetts(), manySetts()) {
		text := settsText(list)
		check(t, fmt.Sprint("SettsText of ", i), impl.SettsText(list), text)
		check(t, fmt.Sprint("ReadSetts of ", i), all(impl.ReadSetts(text)), all(list, 0))
		if !isSettsText(text) {
			t.Errorf("%q is no text", text)
		}
	}
	check(t, "one that is 0", impl.SettsText(setts(1, 0)), "1x0")
	check(t, "limits that are reached", readSetts(t, "1x0 16x60 17x60 18x60 19x60 20x60"), setts(1, 0, 16, 60, 17, 60, 18, 60, 19, 60, 20, 60))
}

func TestReadSettsOfNoText(t *testing.T) {
	for _, s := range []string{
		"", " ", "x", "4", "4x", "x10", "4x10 ", " 4x10", "4x10  6x10", "4x10\n", "4x10\t6x10", "4x10\n6x10", "4x10,6x10", "4 10", "4,10",
		"4X10", "4xx10", "4x10x", "4x10x6", "x4x10", "4x10 6", "4x10 6x", "4x10 x", "4 x10", "4x 10", "04x10", "4x010", "4x00", "+4x10", "4x+10", "4x-0", "-4x10",
		"4x-1", "0x1", "21x1", "4x61", "4x10 4x10", "6x10 4x10", "4x10 6x10 5x10", "1x1 2x1 3x1 4x1 5x1 6x1 7x1", "260x10", "4x266", "4x4294967306",
		"4x99999999999999999999", "4.0x10", "4x1e1", "0x4x10", "4x1_0", "４x10", "4×10", "4x10\x00", "\xff", "4x10 6x10 9x3.", "none",
	} {
		check(t, fmt.Sprintf("ReadSetts of %q", s), all(impl.ReadSetts(s)), "[[] 5]")
		if isSettsText(s) {
			t.Errorf("%q is a text", s)
		}
	}
	for name, list := range notSetts() {
		check(t, "ReadSetts of "+name, all(impl.ReadSetts(settsText(list))), "[[] 5]")
	}
}

// TestReadSettsOfChangedTexts changes single bytes of texts, takes them away,
// and adds some.
func TestReadSettsOfChangedTexts(t *testing.T) {
	d := dice(36)
	good := 0
	for _, list := range slices.Concat(fewSetts(), manySetts()) {
		from := settsText(list)
		for range 60 {
			s := changed(&d, from, "0123456789 x,-+\n")
			good += checkRead(t, s, isSettsText(s), impl.ReadSetts, impl.SettsText)
		}
	}
	if good < 1000 {
		t.Errorf("only %d texts were good", good)
	}
}

// Promise 1: no function modifies its arguments, and all results are equal for
// equal arguments, in memory of their own.
func TestSettsArePure(t *testing.T) {
	for i, list := range fewSetts() {
		list = roomy(list, impl.Sett{Wide: 7, Count: 7})
		counts := roomy(make([]int64, len(list)), 7)
		longs := roomy([]int64{9, 34, 13}, 7)
		for k, s := range list {
			counts[k] = int64(s.Count) / 2
		}
		read := settsText(list)
		args := all(list, counts, longs)
		for _, c := range rowCalls() {
			for _, n := range [][2]int64{{13, 1}, {34, 1}, {20, 0}, {21, 5}} {
				checkPure(t, fmt.Sprint(c.name, " of ", i), args, func() []any { return c.call(list, n[0], n[1]) })
			}
		}
		for name, call := range map[string]func() []any{
			"ValidSetts":  func() []any { return all(impl.ValidSetts(list)) },
			"LayRow":      func() []any { return all(impl.LayRow(list, counts)) },
			"FewestSorts": func() []any { return all(impl.FewestSorts(list, longs, 1)) },
			"SettsText":   func() []any { return all(impl.SettsText(list)) },
			"ReadSetts":   func() []any { return all(impl.ReadSetts(read)) },
		} {
			checkPure(t, fmt.Sprint(name, " of ", i), args, call)
		}
	}
}

func TestRowsArePure(t *testing.T) {
	for i, row := range someRows() {
		row, other := roomy(row, 7), roomy(turnedRow(row, 0), 7)
		for _, by := range []int64{0, 1, int64(len(row)) - 1, 60} {
			checkPure(t, fmt.Sprint("TurnRow of ", i, " by ", by), all(row), func() []any { return all(impl.TurnRow(row, by)) })
		}
		for name, call := range map[string]func() []any{
			"JointsOf":     func() []any { return all(impl.JointsOf(row, 1)) },
			"CommonJoints": func() []any { return all(impl.CommonJoints(row, other, 1)) },
			"with itself":  func() []any { return all(impl.CommonJoints(row, row, 1)) },
			"BestTurn":     func() []any { return all(impl.BestTurn(row, other, 1)) },
		} {
			checkPure(t, fmt.Sprint(name, " of ", i), all(row, other), call)
		}
	}
}

func TestBowsArePure(t *testing.T) {
	lines := someBows()
	for _, bow := range notBows() {
		if len(bow) < 100 {
			lines = append(lines, bow)
		}
	}
	for i, line := range lines {
		line = roomy(line, 7)
		bows := roomy([][]int64{roomy(line, 7), roomy([]int64{0, 9, 0}, 7)}, []int64{7})
		one := roomy([][]int64{roomy(line, 7)}, []int64{7})
		for name, call := range map[string]func() []any{
			"ValidBow":         func() []any { return all(impl.ValidBow(line)) },
			"MakeBow":          func() []any { return all(impl.MakeBow(int64(len(line)), 8)) },
			"BowFrom":          func() []any { return all(impl.BowFrom(line)) },
			"JoinBows":         func() []any { return all(impl.JoinBows(bows)) },
			"JoinBows of one":  func() []any { return all(impl.JoinBows(one)) },
			"JoinBows of none": func() []any { return all(impl.JoinBows(bows[:0])) },
			"TopsOf":           func() []any { return all(impl.TopsOf(line)) },
			"OffsetBow":        func() []any { return all(impl.OffsetBow(line)) },
		} {
			checkPure(t, fmt.Sprint(name, " of ", i), all(line, bows, one), call)
		}
	}
}

// Promise 1: functions return for great arguments, too.
func TestSettsOfManyElements(t *testing.T) {
	many := make([]impl.Sett, 1000000)
	numbers := slices.Repeat([]int64{9}, 1000000)
	check(t, "ValidSetts", impl.ValidSetts(many), false)
	check(t, "SettsText", impl.SettsText(many), "")
	check(t, "LayRow", all(impl.LayRow(many, numbers)), "[[] 1]")
	check(t, "FewestSorts", all(impl.FewestSorts(exampleSetts(), numbers, 1)), "[0 3]")
	check(t, "CommonJoints", all(impl.CommonJoints(numbers, numbers, 1)), "[[] 2]")
	check(t, "BestTurn", all(impl.BestTurn(numbers, numbers, 1)), "[0 0 2]")
	check(t, "BowFrom", all(impl.BowFrom(numbers)), "[[] 4]")
	check(t, "JoinBows", all(impl.JoinBows(make([][]int64, 1000000))), "[[] 1]")
	for _, c := range rowCalls() {
		check(t, c.name, c.call(many, 9, 1), coded(c.zeros, 1))
	}
	for _, s := range []string{"4", " ", "x", "4x10 ", "1x1 ", "x ", "\n", "\xff"} {
		long := strings.Repeat(s, 1000000/len(s))
		check(t, "ReadSetts of much", all(impl.ReadSetts(long)), "[[] 5]")
		check(t, "ReadSetts of much behind", all(impl.ReadSetts("4x10 "+long)), "[[] 5]")
	}
}

// TestExampleOfSetts is the example of the document.
func TestExampleOfSetts(t *testing.T) {
	list := readSetts(t, "4x10 6x10 9x3")
	check(t, "setts", list, exampleSetts())
	check(t, "fewest", all(impl.FillRow(list, 34, 1)), "[[1 0 3] 4 0]")
	check(t, "ways", all(impl.WaysToFill(list, 34, 1)), "[5 0]")
	check(t, "row", all(impl.LayRow(list, []int64{1, 2, 1})), "[[9 6 4 6] 0]")
	check(t, "joints", all(impl.JointsOf([]int64{9, 6, 4, 6}, 1)), "[[9 16 21] 0]")
	bow, code := impl.MakeBow(4, 8)
	check(t, "bow", all(bow, code), "[[0 6 8 6 0] 0]")
	line, code := impl.JoinBows([][]int64{bow, bow})
	check(t, "line", all(line, code), "[[0 6 8 6 0 6 8 6 0] 0]")
	check(t, "tops", all(impl.TopsOf(line)), "[[2 6] 0]")
}
