package tests

import (
	"fmt"
	"regexp"
	"slices"
	"strconv"

	"loop.example/g01383/impl"
)

// This file has a second, slow program for chapter 2. It lays all slabs of a
// part of the plane one by one, along the two vectors, and never brings a place
// home. It calls nothing of package impl.

func pattern(across, down, slide int8, slabs ...impl.Slab) impl.Pattern {
	return impl.Pattern{Across: across, Down: down, Slide: slide, Slabs: slabs}
}

// bricks returns the pattern of the document's example.
func bricks() impl.Pattern { return pattern(2, 1, 1, slab(0, 0, 2, 1)) }

// tiles returns the pattern of slabs of 1 by 1.
func tiles() impl.Pattern { return pattern(1, 1, 0, slab(0, 0, 1, 1)) }

// copied is a slab as it lies in the plane, and its index in the pattern.
type copied struct{ x, y, wide, high, index int }

// window is a part of the plane, with all slabs that reach into it, and the
// list of those that cover each cell, by y and then by x.
type window struct {
	x, y   int
	slabs  []copied
	covers [][][]int
}

// windowOf lays all slabs of a part of the plane.
func windowOf(p impl.Pattern, x, y, wide, high int) window {
	w := window{x: x, y: y, covers: make([][][]int, high)}
	for i := range w.covers {
		w.covers[i] = make([][]int, wide)
	}
	for index, s := range p.Slabs {
		for down := (y-30)/int(p.Down) - 2; down <= (y+high)/int(p.Down)+2; down++ {
			slide := int(s.X) + down*int(p.Slide)
			for across := (x-30-slide)/int(p.Across) - 2; across <= (x+wide-slide)/int(p.Across)+2; across++ {
				w.lay(copied{slide + across*int(p.Across), int(s.Y) + down*int(p.Down), int(s.Wide), int(s.High), index})
			}
		}
	}
	return w
}

// lay adds a slab if it reaches into a window.
func (w *window) lay(c copied) {
	reaches := false
	for y := max(c.y, w.y); y < min(c.y+c.high, w.y+len(w.covers)); y++ {
		for x := max(c.x, w.x); x < min(c.x+c.wide, w.x+len(w.covers[0])); x++ {
			reaches = true
			w.covers[y-w.y][x-w.x] = append(w.covers[y-w.y][x-w.x], len(w.slabs))
		}
	}
	if reaches {
		w.slabs = append(w.slabs, c)
	}
}

// at returns the only slab that covers a cell of the plane.
func (w *window) at(x, y int) copied {
	return w.slabs[w.covers[y-w.y][x-w.x][0]]
}

// isPatternRight reports whether a pattern is valid.
func isPatternRight(p impl.Pattern) bool {
	if p.Across < 1 || p.Across > 8 || p.Down < 1 || p.Down > 8 || p.Slide < 0 || p.Slide > p.Across-1 {
		return false
	}
	if len(p.Slabs) == 0 || len(p.Slabs) > 12 {
		return false
	}
	for i, s := range p.Slabs {
		if s.X < 0 || s.X > p.Across-1 || s.Y < 0 || s.Y > p.Down-1 || i > 0 && place(p.Slabs[i-1]) >= place(s) {
			return false
		}
		if s.Wide < 1 || s.Wide > 12 || s.High < 1 || s.High > 12 {
			return false
		}
	}
	return true
}

// gapOf returns the first cell at home that is not covered by just one slab,
// whether it is covered by more, and whether there is none.
func gapOf(p impl.Pattern) (impl.Cell, bool, bool) {
	w := windowOf(p, 0, 0, int(p.Across), int(p.Down))
	for y, row := range w.covers {
		for x, list := range row {
			if len(list) != 1 {
				return cell(int8(x), int8(y)), len(list) > 1, false
			}
		}
	}
	return impl.Cell{}, false, true
}

// isPlane reports whether a pattern covers the plane, by more cells than those
// at home.
func isPlane(p impl.Pattern) bool {
	for _, row := range windowOf(p, -5, -7, 24, 24).covers {
		for _, list := range row {
			if len(list) != 1 {
				return false
			}
		}
	}
	return true
}

// cutOut has what the functions that cut out squares return.
type cutOut struct {
	laid  []impl.Slab
	cuts  []impl.Slab
	whole int
	waste int
}

// cutFrom cuts a square out of the plane of a pattern that covers it.
func cutFrom(p impl.Pattern, wide, high, x, y int) cutOut {
	w := windowOf(p, x, y, wide, high)
	slices.SortFunc(w.slabs, func(a, b copied) int {
		return 1000*(max(a.y, y)-max(b.y, y)) + max(a.x, x) - max(b.x, x)
	})
	var out cutOut
	for _, c := range w.slabs {
		west, north := max(c.x, x), max(c.y, y)
		east, south := min(c.x+c.wide, x+wide), min(c.y+c.high, y+high)
		s := slab(int8(west-x), int8(north-y), int8(east-west), int8(south-north))
		out.laid = append(out.laid, s)
		if lost := c.wide*c.high - (east-west)*(south-north); lost > 0 {
			out.cuts = append(out.cuts, s)
			out.waste += lost
		} else {
			out.whole++
		}
	}
	return out
}

// hasSlabAt reports whether a slab with some sides begins at a place.
func hasSlabAt(p impl.Pattern, x, y int, wide, high int8) bool {
	for _, s := range p.Slabs {
		if s.Wide != wide || s.High != high || (y-int(s.Y))%int(p.Down) != 0 {
			continue
		}
		down := (y - int(s.Y)) / int(p.Down)
		if (x-int(s.X)-down*int(p.Slide))%int(p.Across) == 0 {
			return true
		}
	}
	return false
}

// isSameMoved reports whether the plane is the same when it is moved. As many
// slabs come to lie upon slabs as there are, so that one way is enough.
func isSameMoved(p impl.Pattern, x, y int) bool {
	for _, s := range p.Slabs {
		if !hasSlabAt(p, int(s.X)+x, int(s.Y)+y, s.Wide, s.High) {
			return false
		}
	}
	return true
}

// periods returns the least numbers by which the plane can be moved.
func periods(p impl.Pattern) (int, int) {
	east, south := 1, 1
	for !isSameMoved(p, east, 0) {
		east++
	}
	for !isSameMoved(p, 0, south) {
		south++
	}
	return east, south
}

// hasLineIn reports whether a line of a window has other slabs on both of its
// sides, all along; the window is large enough to show each line of the plane.
func hasLineIn(p impl.Pattern, toEast bool) bool {
	const lines, long = 10, 80
	w := windowOf(p, 0, 0, long, long)
lines:
	for line := 1; line < lines; line++ {
		for k := range long {
			one, two := w.covers[line-1][k], w.covers[line][k]
			if !toEast {
				one, two = w.covers[k][line-1], w.covers[k][line]
			}
			if one[0] == two[0] {
				continue lines
			}
		}
		return true
	}
	return false
}

// movedHome returns a pattern with its slabs moved, and then brought to the only
// place at home that is alike, which is looked for.
func movedHome(p impl.Pattern, x, y int) impl.Pattern {
	moved := pattern(p.Across, p.Down, p.Slide)
	for atY := range p.Down {
		for atX := range p.Across {
			for _, s := range p.Slabs {
				if hasSlabAt(pattern(p.Across, p.Down, p.Slide, s), int(atX)-x, int(atY)-y, s.Wide, s.High) {
					moved.Slabs = append(moved.Slabs, slab(atX, atY, s.Wide, s.High))
				}
			}
		}
	}
	return moved
}

// patternText returns the text of a valid pattern.
func patternText(p impl.Pattern) string {
	text := fmt.Sprintf("%d %d %d\n", p.Across, p.Down, p.Slide)
	for _, s := range p.Slabs {
		text += fmt.Sprintf("%d,%d %dx%d\n", s.X, s.Y, s.Wide, s.High)
	}
	return text
}

var (
	textForm = regexp.MustCompile(`\A(0|[1-9][0-9]?) (0|[1-9][0-9]?) (0|[1-9][0-9]?)\n((0|[1-9][0-9]?),(0|[1-9][0-9]?) (0|[1-9][0-9]?)x(0|[1-9][0-9]?)\n)*\z`)
	number   = regexp.MustCompile(`[0-9]+`)
)

// isPatternText reports whether a text is that of a valid pattern.
func isPatternText(text string) bool {
	if !textForm.MatchString(text) {
		return false
	}
	var n []int8
	for _, word := range number.FindAllString(text, -1) {
		one, _ := strconv.Atoi(word)
		n = append(n, int8(one))
	}
	p := pattern(n[0], n[1], n[2])
	for k := 3; k < len(n); k += 4 {
		p.Slabs = append(p.Slabs, slab(n[k], n[k+1], n[k+2], n[k+3]))
	}
	return isPatternRight(p)
}

// torus has the places at home of a pattern that is being made, each one
// covered or not.
type torus struct {
	p       impl.Pattern
	covered [8][8]bool
}

// cells returns the places at home that a slab covers, or none if one of them
// is covered already, or twice.
func (g *torus) cells(s impl.Slab) [][2]int {
	var list [][2]int
	for y := int(s.Y); y < int(s.Y+s.High); y++ {
		for x := int(s.X); x < int(s.X+s.Wide); x++ {
			atX, atY := x, y
			for atY >= int(g.p.Down) {
				atY, atX = atY-int(g.p.Down), atX-int(g.p.Slide)
			}
			for atX < 0 {
				atX += int(g.p.Across)
			}
			for atX >= int(g.p.Across) {
				atX -= int(g.p.Across)
			}
			at := [2]int{atX, atY}
			if g.covered[atY][atX] || slices.Contains(list, at) {
				return nil
			}
			list = append(list, at)
		}
	}
	return list
}

// put lays a slab, or takes it away.
func (g *torus) put(cells [][2]int, covered bool) {
	for _, at := range cells {
		g.covered[at[1]][at[0]] = covered
	}
}

// open returns the first place that is not covered, from a row and a column on,
// or -1.
func (g *torus) open(fromX, fromY int) (int, int) {
	for y := range int(g.p.Down) {
		for x := range int(g.p.Across) {
			atX, atY := (x+fromX)%int(g.p.Across), (y+fromY)%int(g.p.Down)
			if !g.covered[atY][atX] {
				return atX, atY
			}
		}
	}
	return -1, -1
}

// somePlane returns a pattern that covers the plane, of slabs whose sides are at
// most as told.
func somePlane(d *dice, side int) impl.Pattern {
	for {
		across, down := int8(1+d.below(8)), int8(1+d.below(8))
		g := torus{p: pattern(across, down, int8(d.below(int(across))))}
		now := side
		for len(g.p.Slabs) <= 12 {
			x, y := g.open(d.below(8), d.below(8))
			if x < 0 {
				return movedHome(g.p, d.below(20), d.below(20))
			}
			s := slab(int8(x), int8(y), int8(1+d.below(now)), int8(1+d.below(now)))
			if cells := g.cells(s); cells != nil {
				g.put(cells, true)
				g.p.Slabs = append(g.p.Slabs, s)
			} else {
				now = max(1, now-d.below(2))
			}
		}
	}
}

// allPlanes returns all patterns with some vectors that cover the plane.
func allPlanes(across, down, slide int8) []impl.Pattern {
	var list []impl.Pattern
	g := torus{p: pattern(across, down, slide)}
	var from func(first int)
	from = func(first int) {
		if x, _ := g.open(0, 0); x < 0 {
			list = append(list, pattern(across, down, slide, slices.Clone(g.p.Slabs)...))
			return
		}
		// Slabs are laid in their order, and each place has at most one.
		for at := first; at < int(across)*int(down); at++ {
			for wide := int8(1); wide <= across; wide++ {
				for high := int8(1); high <= 12; high++ {
					s := slab(int8(at%int(across)), int8(at/int(across)), wide, high)
					cells := g.cells(s)
					if cells == nil {
						break
					}
					g.put(cells, true)
					g.p.Slabs = append(g.p.Slabs, s)
					from(at + 1)
					g.p.Slabs = g.p.Slabs[:len(g.p.Slabs)-1]
					g.put(cells, false)
				}
			}
		}
	}
	from(0)
	return list
}

// longPlane has slabs that are higher than Down, and meet far to the south.
func longPlane() impl.Pattern {
	return pattern(8, 2, 1, slab(0, 0, 1, 12), slab(2, 0, 1, 4))
}

// somePlanes returns patterns of many kinds that cover the plane: all small
// ones, and some great ones.
func somePlanes() []impl.Pattern {
	list := []impl.Pattern{
		bricks(),
		tiles(),
		longPlane(),
		pattern(8, 8, 7, slab(7, 7, 8, 8)),
		pattern(8, 8, 0, slab(3, 5, 8, 8)),
		pattern(8, 1, 1, slab(0, 0, 1, 8)),
		pattern(8, 1, 3, slab(5, 0, 1, 8)),
		pattern(4, 4, 1, slab(0, 0, 2, 1), slab(2, 0, 1, 2), slab(3, 0, 1, 2), slab(0, 1, 2, 1), slab(0, 2, 4, 2)),
		pattern(3, 1, 0, slab(0, 0, 1, 1), slab(1, 0, 2, 1)),
		pattern(3, 1, 0, slab(0, 0, 2, 1), slab(2, 0, 1, 1)),
		pattern(5, 1, 2, slab(0, 0, 2, 2), slab(2, 0, 1, 1)),
	}
	for across := int8(1); across <= 4; across++ {
		for down := int8(1); across*down <= 4; down++ {
			for slide := range across {
				list = append(list, allPlanes(across, down, slide)...)
			}
		}
	}
	d := dice(11)
	for i := range 240 {
		list = append(list, somePlane(&d, 1+i%12))
	}
	return list
}

// somePatterns returns valid patterns, most of which do not cover the plane.
func somePatterns() []impl.Pattern {
	list := []impl.Pattern{
		pattern(2, 1, 0, slab(0, 0, 1, 1)),
		pattern(2, 1, 0, slab(0, 0, 3, 1)),
		pattern(1, 1, 0, slab(0, 0, 12, 12)),
		pattern(8, 8, 7, slab(7, 7, 12, 12)),
		pattern(2, 2, 1, slab(0, 0, 1, 1), slab(1, 1, 2, 1)),
		pattern(2, 2, 0, slab(0, 0, 1, 1), slab(1, 0, 1, 1), slab(0, 1, 1, 1)),
	}
	d := dice(12)
	for len(list) < 400 {
		across, down := int8(1+d.below(8)), int8(1+d.below(8))
		p := pattern(across, down, int8(d.below(int(across))))
		side := 1 + d.below(12)
		for y := range down {
			for x := range across {
				if len(p.Slabs) < 12 && d.below(4) == 0 {
					p.Slabs = append(p.Slabs, slab(x, y, int8(1+d.below(side)), int8(1+d.below(side))))
				}
			}
		}
		if len(p.Slabs) > 0 {
			list = append(list, p)
		}
	}
	return list
}

// openPatterns returns valid patterns that do not cover the plane.
func openPatterns() []impl.Pattern {
	return slices.DeleteFunc(somePatterns(), isPlane)
}

// manySlabs returns some slabs of 1 by 1 in their order.
func manySlabs(count int) []impl.Slab {
	var list []impl.Slab
	for i := range count {
		list = append(list, slab(int8(i%8), int8(i/8), 1, 1))
	}
	return list
}

// notPatterns returns patterns that are not valid, by what is wrong with them.
func notPatterns() map[string]impl.Pattern {
	one := slab(0, 0, 1, 1)
	return map[string]impl.Pattern{
		"the zero pattern":       {},
		"Across 0":               pattern(0, 1, 0, one),
		"Across 9":               pattern(9, 1, 0, slab(0, 0, 9, 1)),
		"Across below 0":         pattern(-1, 1, 0, one),
		"Across -128":            pattern(-128, 1, 0, one),
		"Down 0":                 pattern(1, 0, 0, one),
		"Down 9":                 pattern(1, 9, 0, slab(0, 0, 1, 9)),
		"Down below 0":           pattern(1, -1, 0, one),
		"Slide below 0":          pattern(2, 1, -1, slab(0, 0, 2, 1)),
		"Slide as Across":        pattern(2, 1, 2, slab(0, 0, 2, 1)),
		"Slide as Across 1":      pattern(1, 1, 1, one),
		"Slide 127":              pattern(2, 1, 127, slab(0, 0, 2, 1)),
		"no slabs":               pattern(2, 1, 1),
		"13 slabs":               pattern(8, 8, 0, manySlabs(13)...),
		"64 slabs":               pattern(8, 8, 0, manySlabs(64)...),
		"a slab not wide":        pattern(2, 1, 1, slab(0, 0, 0, 1)),
		"a slab not high":        pattern(2, 1, 1, slab(0, 0, 2, 0)),
		"a slab 13 wide":         pattern(2, 1, 1, slab(0, 0, 13, 1)),
		"a slab 13 high":         pattern(2, 1, 1, slab(0, 0, 2, 13)),
		"a slab wide below 0":    pattern(2, 1, 1, slab(0, 0, -2, 1)),
		"a slab high below 0":    pattern(2, 1, 1, slab(0, 0, 2, -1)),
		"a slab 127 wide":        pattern(2, 1, 1, slab(1, 0, 127, 1)),
		"X below 0":              pattern(2, 1, 1, slab(-1, 0, 2, 1)),
		"X as Across":            pattern(2, 1, 1, slab(2, 0, 2, 1)),
		"X 127":                  pattern(2, 1, 1, slab(127, 0, 2, 1)),
		"Y below 0":              pattern(2, 1, 1, slab(0, -1, 2, 1)),
		"Y as Down":              pattern(2, 1, 1, slab(0, 1, 2, 1)),
		"Y 127":                  pattern(2, 1, 1, slab(0, 127, 2, 1)),
		"one first cell twice":   pattern(2, 1, 1, slab(0, 0, 1, 1), slab(0, 0, 2, 1)),
		"one slab twice":         pattern(2, 1, 1, slab(0, 0, 2, 1), slab(0, 0, 2, 1)),
		"order of X":             pattern(2, 1, 1, slab(1, 0, 1, 1), slab(0, 0, 1, 1)),
		"order of Y":             pattern(2, 2, 0, slab(0, 1, 2, 1), slab(1, 0, 2, 1)),
		"order of the last ones": pattern(3, 1, 0, slab(0, 0, 1, 1), slab(2, 0, 1, 1), slab(1, 0, 1, 1)),
	}
}
