package tests

import (
	"regexp"
	"slices"
	"strconv"
	"strings"

	"loop.example/g01383/impl"
)

// This file has a second, slow program for chapter 4. It looks at all pairs of
// points wherever it asks for those beside one, and floods a ground for each
// height from 0 on to find its levels. It calls nothing of package impl.

// ground makes the ground of some rows, each with words as in a text.
func ground(rows ...string) impl.Ground {
	g := impl.Ground{High: int8(len(rows))}
	for y, row := range rows {
		words := strings.Fields(row)
		g.Wide = int8(len(words))
		for x, word := range words {
			height, err := strconv.Atoi(strings.TrimRight(word, "g"))
			if err != nil {
				panic(err)
			}
			g.Heights[y][x] = int16(height)
			if strings.HasSuffix(word, "g") {
				g.Gullies = append(g.Gullies, cell(int8(x), int8(y)))
			}
		}
	}
	return g
}

// exampleGround returns the ground of the document's example.
func exampleGround() impl.Ground { return ground("3 2 3", "2 1 2", "3 3 0g") }

// level returns a ground all points of which have one height.
func level(wide, high int8, height int16, gullies ...impl.Cell) impl.Ground {
	g := impl.Ground{Wide: wide, High: high, Gullies: gullies}
	for _, c := range pointsOf(g) {
		g.Heights[c.Y][c.X] = height
	}
	return g
}

// pointsOf returns all points of a ground, in their order.
func pointsOf(g impl.Ground) []impl.Cell {
	var list []impl.Cell
	for y := range g.High {
		for x := range g.Wide {
			list = append(list, cell(x, y))
		}
	}
	return list
}

// heightOf returns the height of a point.
func heightOf(g impl.Ground, c impl.Cell) int64 { return int64(g.Heights[c.Y][c.X]) }

// isGroundRight reports whether a ground is valid.
func isGroundRight(g impl.Ground) bool {
	if g.Wide < 1 || g.Wide > 9 || g.High < 1 || g.High > 9 || len(g.Gullies) > 8 {
		return false
	}
	for y := range int8(9) {
		for x := range int8(9) {
			most := int16(0)
			if x < g.Wide && y < g.High {
				most = 200
			}
			if g.Heights[y][x] < 0 || g.Heights[y][x] > most {
				return false
			}
		}
	}
	last := -1
	for _, c := range g.Gullies {
		at := slices.Index(pointsOf(g), c)
		if at <= last {
			return false
		}
		last = at
	}
	return true
}

// areBeside reports whether two points are beside each other.
func areBeside(a, b impl.Cell) bool {
	x, y := int(a.X)-int(b.X), int(a.Y)-int(b.Y)
	return x*x+y*y == 1
}

// besidePoints returns all points beside one, in their order.
func besidePoints(g impl.Ground, c impl.Cell) []impl.Cell {
	var list []impl.Cell
	for _, d := range pointsOf(g) {
		if areBeside(c, d) {
			list = append(list, d)
		}
	}
	return list
}

// fallOf returns the point to which water runs, and by how much it is lower, or
// 0 if water goes away or stands.
func fallOf(g impl.Ground, c impl.Cell) (impl.Cell, int64) {
	to, most := impl.Cell{}, int64(0)
	for _, d := range besidePoints(g, c) {
		if by := heightOf(g, c) - heightOf(g, d); by > most && !slices.Contains(g.Gullies, c) {
			to, most = d, by
		}
	}
	return to, most
}

// runOf returns all points over which water runs.
func runOf(g impl.Ground, c impl.Cell) []impl.Cell {
	to, by := fallOf(g, c)
	if by == 0 {
		return []impl.Cell{c}
	}
	return append([]impl.Cell{c}, runOf(g, to)...)
}

// gullyOf returns the index of the gully in which water goes away, or -1.
func gullyOf(g impl.Ground, c impl.Cell) int {
	run := runOf(g, c)
	return slices.Index(g.Gullies, run[len(run)-1])
}

// standing returns all points at which water stands.
func standing(g impl.Ground) []impl.Cell {
	var list []impl.Cell
	for _, c := range pointsOf(g) {
		if _, by := fallOf(g, c); by == 0 && !slices.Contains(g.Gullies, c) {
			list = append(list, c)
		}
	}
	return list
}

// steepest returns what SteepestFall has to.
func steepest(g impl.Ground) []any {
	var from, to impl.Cell
	most := int64(0)
	for _, c := range pointsOf(g) {
		for _, d := range pointsOf(g) {
			if by := heightOf(g, c) - heightOf(g, d); areBeside(c, d) && by > most {
				from, to, most = c, d, by
			}
		}
	}
	if most == 0 {
		return all(from, to, 0, impl.ErrNotFound)
	}
	return all(from, to, most, 0)
}

// flats returns how many pairs of points beside each other are equally high.
func flats(g impl.Ground) int {
	both := 0
	for _, c := range pointsOf(g) {
		for _, d := range besidePoints(g, c) {
			if heightOf(g, c) == heightOf(g, d) {
				both++
			}
		}
	}
	return both / 2
}

// flooded returns all points to which water of the gullies gets if it is as
// high as told.
func flooded(g impl.Ground, height int64) map[impl.Cell]bool {
	is := map[impl.Cell]bool{}
	for _, c := range g.Gullies {
		is[c] = heightOf(g, c) <= height
	}
	for more := true; more; {
		more = false
		for _, c := range pointsOf(g) {
			if is[c] || heightOf(g, c) > height {
				continue
			}
			if slices.ContainsFunc(besidePoints(g, c), func(d impl.Cell) bool { return is[d] }) {
				is[c], more = true, true
			}
		}
	}
	return is
}

// levelsOf returns the levels of a ground with gullies, the sum of all pools,
// and how many points are lower than their levels.
func levelsOf(g impl.Ground) ([9][9]int16, int64, int) {
	var levels [9][9]int16
	sum, lower := int64(0), 0
	known := map[impl.Cell]bool{}
	for height := int64(0); height <= 200; height++ {
		// Nothing changes where no point is just as high.
		if !slices.ContainsFunc(pointsOf(g), func(c impl.Cell) bool { return heightOf(g, c) == height }) {
			continue
		}
		for c, is := range flooded(g, height) {
			if !is || known[c] {
				continue
			}
			known[c] = true
			levels[c.Y][c.X] = int16(height)
			if deep := height - heightOf(g, c); deep > 0 {
				sum += deep
				lower++
			}
		}
	}
	return levels, sum, lower
}

// stepsTo returns how many steps it takes to the nearest gully, one by one.
func stepsTo(g impl.Ground) map[impl.Cell]int64 {
	steps := map[impl.Cell]int64{}
	for _, c := range g.Gullies {
		steps[c] = 0
	}
	for n := int64(0); len(steps) < len(pointsOf(g)); n++ {
		for _, c := range pointsOf(g) {
			if _, known := steps[c]; known {
				continue
			}
			if slices.ContainsFunc(besidePoints(g, c), func(d impl.Cell) bool {
				near, known := steps[d]
				return known && near == n
			}) {
				steps[c] = n + 1
			}
		}
	}
	return steps
}

// shortPoints returns all points without a gully that have none beside them
// that is lower by at least a fall.
func shortPoints(g impl.Ground, fall int64) []impl.Cell {
	var list []impl.Cell
	for _, c := range pointsOf(g) {
		keeps := slices.Contains(g.Gullies, c)
		for _, d := range besidePoints(g, c) {
			keeps = keeps || heightOf(g, d)+fall <= heightOf(g, c)
		}
		if !keeps {
			list = append(list, c)
		}
	}
	return list
}

// groundText returns the text of a ground, valid or not.
func groundText(g impl.Ground) string {
	s := ""
	for _, c := range pointsOf(g) {
		s += strconv.Itoa(int(heightOf(g, c)))
		if slices.Contains(g.Gullies, c) {
			s += "g"
		}
		if c.X < g.Wide-1 {
			s += " "
		} else {
			s += "\n"
		}
	}
	return s
}

// groundWord matches what a text tells of a point.
var groundWord = regexp.MustCompile(`\A(0|[1-9][0-9]?|1[0-9][0-9]|200)g?\z`)

// isGroundText reports whether a text is that of a valid ground.
func isGroundText(s string) bool {
	lines := strings.Split(s, "\n")
	high, wide := len(lines)-1, strings.Count(lines[0], " ")+1
	if high < 1 || high > 9 || wide > 9 || lines[high] != "" {
		return false
	}
	for _, line := range lines[:high] {
		words := strings.Split(line, " ")
		if len(words) != wide {
			return false
		}
		for _, word := range words {
			if !groundWord.MatchString(word) {
				return false
			}
		}
	}
	return strings.Count(s, "g") <= 8
}

// someGround returns a ground with heights of a few kinds, so that many of them
// are equal.
func someGround(d *dice, wide, high, kinds, gullies int) impl.Ground {
	g := impl.Ground{Wide: int8(wide), High: int8(high)}
	step := 1 + d.below(200/kinds)
	for _, c := range pointsOf(g) {
		g.Heights[c.Y][c.X] = int16(step * d.below(kinds))
	}
	for left := pointsOf(g); len(left) > 0 && len(g.Gullies) < gullies; {
		at := d.below(len(left))
		g.Gullies = append(g.Gullies, left[at])
		left = slices.Delete(left, at, at+1)
	}
	slices.SortFunc(g.Gullies, func(a, b impl.Cell) int { return 100*(int(a.Y)-int(b.Y)) + int(a.X) - int(b.X) })
	return g
}

// hill returns a ground that slopes from one point to all sides, or to it, if
// fall is less than 0.
func hill(wide, high int8, top impl.Cell, height, fall int) impl.Ground {
	g := impl.Ground{Wide: wide, High: high}
	for _, c := range pointsOf(g) {
		x, y := int(c.X)-int(top.X), int(c.Y)-int(top.Y)
		g.Heights[c.Y][c.X] = int16(height - fall*(max(x, -x)+max(y, -y)))
	}
	return g
}

// maze returns a ground with a long way between walls, and a gully at its end.
func maze() impl.Ground {
	return ground(
		"1 1 1 1 1 1 1 1 1",
		"9 9 9 9 9 9 9 9 1",
		"3 1 1 1 1 1 1 9 1",
		"3 9 9 9 9 9 1 9 1",
		"3 9 0 5 0g 9 1 9 1",
		"3 9 1 9 9 9 1 9 1",
		"3 9 1 1 1 1 1 9 1",
		"3 9 9 9 9 9 9 9 1",
		"1 7 1 1 1 1 1 1 1")
}

// someGrounds returns grounds that are valid.
func someGrounds() []impl.Ground {
	corners := []impl.Cell{cell(0, 0), cell(8, 0), cell(0, 8), cell(8, 8)}
	withGullies := hill(9, 9, cell(4, 4), 200, 25)
	withGullies.Gullies = corners
	list := []impl.Ground{
		exampleGround(), maze(), withGullies,
		ground("0"), ground("0g"), ground("200"), ground("200g"),
		ground("1 1"), ground("1g 1"), ground("1 1g"), ground("1g 1g"), ground("2 1g"), ground("2g 1"), ground("1 2g"),
		ground("5 4 3 2 1 2 3 4 5"), ground("5g 4 3 2 1 2 3 4 5g"), ground("5 4 3 2 1g 2 3 4 5"),
		ground("5", "4", "3", "2", "1", "2", "3", "4", "5g"),
		level(9, 9, 0), level(9, 9, 200), level(9, 9, 200, corners...), level(3, 2, 7, cell(1, 1)),
		hill(9, 9, cell(4, 4), 200, 25), hill(9, 9, cell(4, 4), 0, -25), hill(9, 9, cell(0, 8), 0, -12), hill(5, 9, cell(4, 0), 200, 10),
		ground("0g 200 0g 200 0g 200 0g 200 0g", "200 0g 200 0g 200 0g 200 0 200"),
		ground("9 9 9 9", "9 0 0 9", "9 0 0 9", "9 9 9 9g"), ground("9 9 9 9", "9 0 0 5", "9 0 0 9", "9 9 9 9g"),
	}
	d := dice(41)
	for wide := 1; wide <= 9; wide++ {
		for high := 1; high <= 9; high++ {
			list = append(list, someGround(&d, wide, high, 2, d.below(9)), someGround(&d, wide, high, 4, d.below(9)), someGround(&d, wide, high, 20, 1+d.below(2)), someGround(&d, wide, high, 200, d.below(4)))
		}
	}
	return list
}

// edited returns the example's ground, changed.
func edited(change func(g *impl.Ground)) impl.Ground {
	g := exampleGround()
	change(&g)
	return g
}

// gullied returns the example's ground with other gullies.
func gullied(gullies ...impl.Cell) impl.Ground {
	return edited(func(g *impl.Ground) { g.Gullies = gullies })
}

// notGrounds returns grounds that are not valid, by what is wrong with them.
func notGrounds() map[string]impl.Ground {
	raised := func(x, y int, height int16) impl.Ground {
		return edited(func(g *impl.Ground) { g.Heights[y][x] = height })
	}
	nine := level(9, 1, 1)
	nine.Gullies = pointsOf(nine)
	return map[string]impl.Ground{
		"nothing":                       {},
		"not wide":                      {High: 1},
		"not high":                      {Wide: 1},
		"wide below 0":                  {Wide: -1, High: 1},
		"high below 0":                  {Wide: 1, High: -1},
		"as wide and high as -128":      {Wide: -128, High: -128},
		"too wide":                      {Wide: 10, High: 9},
		"too high":                      {Wide: 9, High: 10},
		"as wide and high as 127":       {Wide: 127, High: 127},
		"heights where it is not wide":  edited(func(g *impl.Ground) { g.Wide = 0 }),
		"one column less":               edited(func(g *impl.Ground) { g.Wide, g.Gullies = 2, nil }),
		"one row less":                  edited(func(g *impl.Ground) { g.High, g.Gullies = 2, nil }),
		"a point below 0":               raised(0, 0, -1),
		"the last point below 0":        raised(2, 2, -1),
		"the lowest point":              raised(1, 1, -32768),
		"a point too high":              raised(0, 0, 201),
		"the last point too high":       raised(2, 2, 201),
		"the highest point":             raised(1, 1, 32767),
		"256 high":                      raised(1, 1, 256),
		"a height to the east":          raised(3, 0, 1),
		"a height to the south":         raised(0, 3, 1),
		"a height far off":              raised(8, 8, 200),
		"a height below 0 far off":      raised(8, 8, -1),
		"9 gullies":                     nine,
		"a million gullies":             gullied(make([]impl.Cell, 1000000)...),
		"one gully twice":               gullied(cell(0, 0), cell(0, 0)),
		"the last gully twice":          gullied(cell(0, 0), cell(1, 2), cell(1, 2)),
		"gullies in wrong order":        gullied(cell(1, 0), cell(0, 0)),
		"gullies by X, and then by Y":   gullied(cell(0, 1), cell(1, 0)),
		"the last gullies in no order":  gullied(cell(0, 0), cell(2, 2), cell(1, 2)),
		"a gully to the west":           gullied(cell(-1, 0)),
		"a gully to the north":          gullied(cell(0, -1)),
		"a gully to the east":           gullied(cell(3, 0)),
		"a gully to the south":          gullied(cell(0, 3)),
		"a gully far to the east":       gullied(cell(127, 0)),
		"a gully far to the north west": gullied(cell(-128, -128)),
		"the last gully beyond":         gullied(cell(0, 0), cell(2, 1), cell(3, 2)),
		"a gully beyond one row":        {Wide: 2, High: 1, Gullies: []impl.Cell{cell(0, 1)}},
	}
}
