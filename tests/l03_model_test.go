package tests

import (
	"fmt"
	"regexp"
	"slices"
	"strconv"
	"strings"

	"loop.example/g01383/impl"
)

// This file has a second, slow program for chapter 3. It lays out each row sett
// by sett, with a joint ahead of all but the first one, and tries all counts,
// or, where there are too many, all numbers of setts and sums of widths. It
// calls nothing of package impl.

// setts makes setts of widths and counts, by turns.
func setts(numbers ...int) []impl.Sett {
	var list []impl.Sett
	for i := 0; i < len(numbers); i += 2 {
		list = append(list, impl.Sett{Wide: int8(numbers[i]), Count: int16(numbers[i+1])})
	}
	return list
}

// exampleSetts returns the setts of the document's example.
func exampleSetts() []impl.Sett { return setts(4, 10, 6, 10, 9, 3) }

// areSettsRight reports whether setts are valid.
func areSettsRight(list []impl.Sett) bool {
	widest := int8(0)
	for _, s := range list {
		if s.Wide <= widest || s.Wide > 20 || s.Count < 0 || s.Count > 60 {
			return false
		}
		widest = s.Wide
	}
	return len(list) > 0 && len(list) <= 6
}

// longOf returns how long a row is, joints included.
func longOf(row []int64, joint int64) int64 {
	long := int64(0)
	for i, wide := range row {
		if i > 0 {
			long += joint
		}
		long += wide
	}
	return long
}

// rowWith returns a row of some counts, sort by sort.
func rowWith(list []impl.Sett, counts []int64) []int64 {
	var row []int64
	for i, s := range list {
		for range counts[i] {
			row = append(row, int64(s.Wide))
		}
	}
	return row
}

// allCounts returns all counts of some setts, in the order of lists.
func allCounts(list []impl.Sett) [][]int64 {
	if len(list) == 0 {
		return [][]int64{{}}
	}
	var lists [][]int64
	others := allCounts(list[1:])
	for count := range int64(list[0].Count) + 1 {
		for _, other := range others {
			lists = append(lists, append([]int64{count}, other...))
		}
	}
	return lists
}

// filling tells with which counts a row is filled best, with how many setts,
// and in how many ways.
type filling struct {
	counts       []int64
	number, ways int64
}

// fillings returns for each length of a row how it is filled, by all counts.
func fillings(list []impl.Sett, joint int64) map[int64]filling {
	found := map[int64]filling{}
	for _, counts := range allCounts(list) {
		row := rowWith(list, counts)
		if len(row) == 0 {
			continue
		}
		f := found[longOf(row, joint)]
		f.ways++
		if f.counts == nil || int64(len(row)) < f.number {
			f.counts, f.number = counts, int64(len(row))
		}
		found[longOf(row, joint)] = f
	}
	return found
}

// sums has for each number of setts, and each sum of their widths up to 400, by
// how many counts these are reached.
type sums [][]int64

// sumsOf returns the sums of all setts from each sort on, and of none at last.
func sumsOf(list []impl.Sett) []sums {
	if len(list) == 0 {
		return []sums{{{0: 1}}}
	}
	rest := sumsOf(list[1:])
	with := make(sums, 401)
	for number := range with {
		with[number] = make([]int64, 401)
	}
	for number, row := range rest[0] {
		for sum, ways := range row {
			for count := range int(list[0].Count) + 1 {
				if n, s := number+count, sum+count*int(list[0].Wide); ways > 0 && n <= 400 && s <= 400 {
					with[n][s] += ways
				}
			}
		}
	}
	return append([]sums{with}, rest...)
}

// at returns by how many counts a number and a sum are reached.
func (s sums) at(number, sum int) int64 {
	if number < 0 || number >= len(s) || sum < 0 || sum >= len(s[number]) {
		return 0
	}
	return s[number][sum]
}

// fillingBy returns how a row is filled, by the sums of many setts.
func fillingBy(list []impl.Sett, all []sums, long, joint int) filling {
	var f filling
	for number := 1; number <= 400; number++ {
		sum := long - joint*(number-1)
		ways := all[0].at(number, sum)
		if f.ways += ways; ways == 0 || f.number > 0 {
			continue
		}
		f.number = int64(number)
		left := number
		for i, s := range list {
			count := 0
			for all[i+1].at(left-count, sum-count*int(s.Wide)) == 0 {
				count++
			}
			left, sum = left-count, sum-count*int(s.Wide)
			f.counts = append(f.counts, int64(count))
		}
	}
	return f
}

// cutRow returns what CutRow has to: it tries whether rows are too long.
func cutRow(list []impl.Sett, long, joint int64) []any {
	counts := make([]int64, len(list))
	var row []int64
	with := func(wide int64) []int64 { return append(slices.Clone(row), wide) }
	for i := len(list) - 1; i >= 0; i-- {
		for wide := int64(list[i].Wide); counts[i] < int64(list[i].Count) && longOf(with(wide), joint) <= long; counts[i]++ {
			row = with(wide)
		}
	}
	for left := int64(1); left <= long; left++ {
		if longOf(with(left), joint) != long {
			continue
		}
		for i, s := range list {
			if int64(s.Wide) >= left && counts[i] < int64(s.Count) {
				counts[i]++
				return all(counts, int64(s.Wide)-left, 0)
			}
		}
		return all("[]", 0, impl.ErrNotFound)
	}
	return all(counts, 0, 0)
}

// laidRow returns a row of some counts, round by round.
func laidRow(list []impl.Sett, counts []int64) []int64 {
	left := slices.Clone(counts)
	var row []int64
	for more := true; more; {
		more = false
		for i := len(list) - 1; i >= 0; i-- {
			if left[i] > 0 {
				left[i]--
				row = append(row, int64(list[i].Wide))
				more = true
			}
		}
	}
	return row
}

// rowsFrom returns how many rows can be laid, each one by all counts.
func rowsFrom(list []impl.Sett, long, joint int64) int64 {
	f := fillings(list, joint)[long]
	if f.counts == nil {
		return 0
	}
	left := slices.Clone(list)
	for i, count := range f.counts {
		left[i].Count -= int16(count)
	}
	return 1 + rowsFrom(left, long, joint)
}

// fewestSorts returns the least number of sorts that fill rows of all lengths,
// or -1; longsOf has for each choice of sorts how rows are filled.
func fewestSorts(choices []choice, longs []int64) int64 {
	least := int64(-1)
	for _, c := range choices {
		fills := true
		for _, long := range longs {
			fills = fills && c.fills[long].ways > 0
		}
		if fills && (least < 0 || c.sorts < least) {
			least = c.sorts
		}
	}
	return least
}

// choice is a number of sorts, and how rows are filled by them alone.
type choice struct {
	sorts int64
	fills map[int64]filling
}

// choicesOf returns all choices of sorts.
func choicesOf(list []impl.Sett, joint int64) []choice {
	choices := []choice{{}}
	lists := [][]impl.Sett{nil}
	for _, s := range list {
		for _, some := range slices.Clone(lists) {
			with := append(slices.Clone(some), s)
			lists = append(lists, with)
			choices = append(choices, choice{int64(len(with)), fillings(with, joint)})
		}
	}
	return choices
}

// joints returns the places of all joints of a row: a joint is behind the first
// setts, each one but the last of which has another joint behind it.
func joints(row []int64, joint int64) []int64 {
	var list []int64
	for i := 1; i < len(row); i++ {
		list = append(list, longOf(row[:i], joint))
	}
	return list
}

// common returns all numbers that two lists have.
func common(a, b []int64) []int64 {
	var list []int64
	for _, n := range a {
		if slices.Contains(b, n) {
			list = append(list, n)
		}
	}
	return list
}

// turnedRow returns the row that begins with a sett.
func turnedRow(row []int64, by int) []int64 {
	var list []int64
	for i := range row {
		list = append(list, row[(by+i)%len(row)])
	}
	return list
}

// isBowRight reports whether heights are a valid bow.
func isBowRight(bow []int64) bool {
	for _, height := range bow {
		if height < 0 || height > 1000 {
			return false
		}
	}
	for i := 2; i < len(bow); i++ {
		if bow[i]+bow[i-2] > 2*bow[i-1] {
			return false
		}
	}
	return len(bow) >= 3 && len(bow) <= 40 && bow[0]+bow[len(bow)-1] == 0
}

// someSorts returns setts that are valid, of at most as many sorts and counts.
func someSorts(d *dice, sorts, count int) []impl.Sett {
	var list []impl.Sett
	n := 1 + d.below(sorts)
	for wide := 1; wide <= 20 && len(list) < n; wide++ {
		if d.below(4) == 0 || 20-wide < n-len(list) {
			list = append(list, setts(wide, d.below(count+1))...)
		}
	}
	return list
}

// fewSetts returns setts of which all counts can be tried.
func fewSetts() [][]impl.Sett {
	list := [][]impl.Sett{
		exampleSetts(),
		setts(1, 0), setts(1, 1), setts(20, 0), setts(20, 60), setts(1, 60), setts(7, 1),
		setts(1, 0, 2, 0, 3, 0, 4, 0, 5, 0, 6, 0),
		setts(1, 1, 2, 1, 3, 1, 4, 1, 5, 1, 6, 1),
		setts(15, 2, 16, 2, 17, 2, 18, 2, 19, 2, 20, 2),
		setts(3, 5, 6, 0, 9, 4), setts(2, 9, 4, 9, 8, 9), setts(19, 20, 20, 20),
		setts(2, 6, 3, 6, 4, 6, 5, 6), setts(1, 2, 10, 3, 20, 60),
	}
	d := dice(21)
	for range 40 {
		list = append(list, someSorts(&d, 4, 6), someSorts(&d, 6, 2), someSorts(&d, 2, 40))
	}
	return list
}

// manySetts returns setts of which there are many.
func manySetts() [][]impl.Sett {
	list := [][]impl.Sett{
		setts(1, 60, 2, 60, 3, 60, 4, 60, 5, 60, 6, 60),
		setts(15, 60, 16, 60, 17, 60, 18, 60, 19, 60, 20, 60),
		setts(1, 60, 3, 60, 7, 60, 11, 60, 13, 60, 20, 60),
		setts(2, 59, 4, 60, 6, 58, 10, 60, 12, 60),
	}
	d := dice(22)
	for range 3 {
		list = append(list, someSorts(&d, 6, 60), someSorts(&d, 5, 30))
	}
	return list
}

// notSetts returns setts that are not valid, by what is wrong with them.
func notSetts() map[string][]impl.Sett {
	return map[string][]impl.Sett{
		"no list":               nil,
		"no sorts":              {},
		"7 sorts":               setts(1, 1, 2, 1, 3, 1, 4, 1, 5, 1, 6, 1, 7, 1),
		"not wide":              setts(0, 1),
		"wide below 0":          setts(-1, 1),
		"as wide as -128":       {{Wide: -128, Count: 1}},
		"too wide":              setts(21, 1),
		"as wide as 127":        setts(127, 1),
		"a count below 0":       setts(4, -1),
		"too many":              setts(4, 61),
		"256 of them":           setts(4, 256),
		"a count of 32767":      setts(4, 32767),
		"a count of -32768":     setts(4, -32768),
		"one width twice":       setts(4, 1, 4, 1),
		"widths in wrong order": setts(6, 1, 4, 1),
		"the last one twice":    setts(4, 1, 6, 1, 9, 1, 9, 2),
		"the last one too wide": setts(4, 1, 6, 1, 21, 1),
		"the last one below":    setts(4, 1, 6, 1, 5, 1),
		"the last one too many": setts(4, 1, 6, 1, 9, 61),
	}
}

// someRow returns the widths of a row.
func someRow(d *dice, setts, widest int) []int64 {
	var row []int64
	for range 1 + d.below(setts) {
		row = append(row, int64(1+d.below(widest)))
	}
	return row
}

// someRows returns rows that are right.
func someRows() [][]int64 {
	list := [][]int64{{1}, {20}, {9, 6, 4, 6}, {4, 9}, {4, 4, 4}, slices.Repeat([]int64{1}, 60), slices.Repeat([]int64{20}, 60), slices.Repeat([]int64{3, 5}, 30)}
	d := dice(23)
	for range 30 {
		list = append(list, someRow(&d, 60, 20), someRow(&d, 12, 3), someRow(&d, 6, 6))
	}
	return list
}

// notRows returns rows that are not right, by what is wrong with them.
func notRows() map[string][]int64 {
	return map[string][]int64{
		"no row":                nil,
		"no setts":              {},
		"61 setts":              slices.Repeat([]int64{1}, 61),
		"a million setts":       slices.Repeat([]int64{1}, 1000000),
		"not wide":              {0},
		"wide below 0":          {4, -1},
		"the first one is wide": {21, 4},
		"the last one is wide":  {4, 4, 21},
		"256 wide":              {4, 257, 4},
		"far too wide":          {4, 1<<32 + 4},
		"the greatest number":   {9223372036854775807, 4},
		"the least number":      {4, -9223372036854775808},
	}
}

// someBow returns a valid bow, which begins with the steep steps.
func someBow(d *dice) []int64 {
	for {
		var steps []int64
		sum := int64(0)
		for range 1 + d.below(37) {
			steps = append(steps, int64(d.below(61)-30))
			sum += steps[len(steps)-1]
		}
		slices.Sort(steps)
		slices.Reverse(steps)
		bow := []int64{0}
		for _, step := range append(steps, -sum) {
			bow = append(bow, bow[len(bow)-1]+step)
		}
		if isBowRight(bow) {
			return bow
		}
	}
}

// someBows returns valid bows.
func someBows() [][]int64 {
	flat := make([]int64, 40)
	list := [][]int64{{0, 0, 0}, {0, 1000, 0}, {0, 6, 8, 6, 0}, {0, 7, 7, 0}, {0, 1000, 1000, 0}, {0, 9, 6, 3, 0}, {0, 3, 6, 9, 0}, flat, flat[:39]}
	d := dice(24)
	for range 80 {
		list = append(list, someBow(&d))
	}
	return list
}

// notBows returns heights that are no valid bow, by what is wrong with them.
func notBows() map[string][]int64 {
	return map[string][]int64{
		"no points":             nil,
		"one point":             {0},
		"two points":            {0, 0},
		"41 points":             make([]int64, 41),
		"a million points":      make([]int64, 1000000),
		"the first one high":    {1, 1, 0},
		"the last one high":     {0, 1, 1},
		"both ends high":        {1, 1, 1},
		"too high":              {0, 1001, 0},
		"below 0":               {0, -1, 0},
		"lower in the middle":   {0, 3, 2, 3, 0},
		"a dip to the ground":   {0, 4, 0, 4, 0},
		"a greater second step": {0, 1, 3, 0},
		"a greater last step":   {0, 3, 1, 0},
		"a first step of 0":     {0, 0, 1, 0},
		"a last step of 0":      {0, 1, 0, 0},
		"ends that are below":   {-1, 0, -1},
		"steps that overflow":   {0, -9223372036854775808, 9223372036854775807, 0},
		"the greatest number":   {0, 9223372036854775807, 0},
		"0 by 32 bits":          {1 << 32, 5, 1 << 32},
	}
}

// settsText returns the text of setts, valid or not.
func settsText(list []impl.Sett) string {
	var words []string
	for _, s := range list {
		words = append(words, fmt.Sprint(s.Wide, "x", s.Count))
	}
	return strings.Join(words, " ")
}

// isSettsText reports whether a text is that of valid setts.
func isSettsText(text string) bool {
	if !regexp.MustCompile(`\A(0|[1-9][0-9]?)x(0|[1-9][0-9]?)( (0|[1-9][0-9]?)x(0|[1-9][0-9]?))*\z`).MatchString(text) {
		return false
	}
	var list []impl.Sett
	for _, word := range strings.Split(text, " ") {
		wide, count, _ := strings.Cut(word, "x")
		w, _ := strconv.Atoi(wide)
		c, _ := strconv.Atoi(count)
		list = append(list, setts(w, c)...)
	}
	return areSettsRight(list)
}
