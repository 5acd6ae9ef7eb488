package tests

import (
	"regexp"
	"slices"
	"strconv"
	"strings"

	"loop.example/g01383/impl"
)

// This file has a second, slow program for chapter 7. It lets gangs work and
// rest day by day, tries all plans, and all amounts. It calls nothing of package
// impl.

// gang makes a gang with a skill, a pace, knees, a rest and a wage.
func gang(skill, pace, knees, rest int8, wage int16) impl.Gang {
	return impl.Gang{Skill: skill, Pace: pace, Knees: knees, Rest: rest, Wage: wage}
}

// works makes rows of what they need and the work that they have, by turns.
func works(numbers ...int) []impl.Row {
	var rows []impl.Row
	for pair := range slices.Chunk(numbers, 2) {
		rows = append(rows, impl.Row{Need: int8(pair[0]), Work: int16(pair[1])})
	}
	return rows
}

// isGangRight reports whether a gang is valid.
func isGangRight(g impl.Gang) bool {
	return g.Skill >= 0 && g.Skill < 10 && g.Pace > 0 && g.Pace < 101 && g.Knees > 0 && g.Knees < 10 && g.Rest >= 0 && g.Rest < 10 && g.Wage >= 0 && g.Wage < 1001
}

// isRowRight reports whether one row is valid.
func isRowRight(r impl.Row) bool {
	return r.Need >= 0 && r.Need < 10 && r.Work > 0 && r.Work < 2001
}

// daysBy lets a gang work and rest day by day.
func daysBy(g impl.Gang, work int) int64 {
	days, inRow := 0, 0
	for work > 0 {
		if inRow == int(g.Knees) {
			days, inRow = days+int(g.Rest), 0
		}
		days, inRow = days+1, inRow+1
		work -= int(g.Pace)
	}
	return int64(days)
}

// isPlanRight reports whether each row has a gang that may lay it.
func isPlanRight(rows []impl.Row, gangs []impl.Gang, plan []int64) bool {
	if len(plan) != len(rows) {
		return false
	}
	for i, index := range plan {
		if index < 0 || index >= int64(len(gangs)) || gangs[index].Skill < rows[i].Need {
			return false
		}
	}
	return true
}

// spentOn returns the days and the cost of a right plan, day by day. A gang that
// goes on to the next row begins it on the day on which the last one is done.
func spentOn(rows []impl.Row, gangs []impl.Gang, plan []int64) (int64, int64) {
	days, cost, inRow, left := 0, 0, 0, 0
	for i, index := range plan {
		g := gangs[index]
		if i > 0 && plan[i-1] != index {
			days, inRow, left = days+1, 0, 0
		}
		for work := int(rows[i].Work); work > 0; work, left = work-1, left-1 {
			if left > 0 {
				continue
			}
			passed := 1
			if inRow == int(g.Knees) {
				passed, inRow = 1+int(g.Rest), 0
			}
			days, cost, inRow, left = days+passed, cost+passed*int(g.Wage), inRow+1, int(g.Pace)
		}
	}
	return int64(days), int64(cost)
}

// rightPlans returns all right plans, as they come.
func rightPlans(rows []impl.Row, gangs []impl.Gang) [][]int64 {
	var plans [][]int64
	for _, plan := range allLists(len(rows), len(gangs)) {
		if isPlanRight(rows, gangs, plan) {
			plans = append(plans, plan)
		}
	}
	return plans
}

// fastestOf returns what FastestPlan has to, of all right plans.
func fastestOf(rows []impl.Row, gangs []impl.Gang) []any {
	want, fewest := all("[]", 0, impl.ErrNotFound), int64(1<<40)
	for _, plan := range rightPlans(rows, gangs) {
		if days, _ := spentOn(rows, gangs, plan); days < fewest {
			want, fewest = all(plan, days, 0), days
		}
	}
	return want
}

// cheapestOf returns what CheapestPlan has to, of all right plans.
func cheapestOf(rows []impl.Row, gangs []impl.Gang, most int64) []any {
	want, least := all("[]", 0, impl.ErrNotFound), int64(1<<40)
	for _, plan := range rightPlans(rows, gangs) {
		if days, cost := spentOn(rows, gangs, plan); days <= most && cost < least {
			want, least = all(plan, cost, 0), cost
		}
	}
	return want
}

// workOf returns the work of all rows.
func workOf(rows []impl.Row) int {
	sum := 0
	for _, r := range rows {
		sum += int(r.Work)
	}
	return sum
}

// mayLayAll reports whether a gang may lay all rows.
func mayLayAll(g impl.Gang, rows []impl.Row) bool {
	return !slices.ContainsFunc(rows, func(r impl.Row) bool { return r.Need > g.Skill })
}

// meetingOf returns what MeetAt has to.
func meetingOf(rows []impl.Row, a, b impl.Gang) []any {
	want, fewest := all(0, 0, impl.ErrNotFound), int64(1<<40)
	for count := range len(rows) + 1 {
		if !mayLayAll(a, rows[:count]) || !mayLayAll(b, rows[count:]) {
			continue
		}
		if days := max(daysBy(a, workOf(rows[:count])), daysBy(b, workOf(rows[count:]))); days < fewest {
			want, fewest = all(count, days, 0), days
		}
	}
	return want
}

// calendarBy returns how many days of a calendar have passed when a number of
// them has been worked.
func calendarBy(start, days int64) int {
	calendar := strings.Repeat("wwwwwws", 200)[start:]
	for passed := range calendar {
		if strings.Count(calendar[:passed], "w") == int(days) {
			return passed
		}
	}
	return -1
}

// isMixRight reports whether a mix is valid.
func isMixRight(m impl.Mix) bool {
	return min(m[0], m[1], m[2]) >= 0 && max(m[0], m[1], m[2]) <= 100 && max(m[0], m[1], m[2]) > 0
}

// threeOrders has all orders of three numbers, as they come.
var threeOrders = permutations(3)

// neededOf returns what MixFor has to. What lacks is given to the parts in the
// first order by which no rest is greater than the one before.
func neededOf(m impl.Mix, amount int) impl.Mix {
	sum := int(m[0]) + int(m[1]) + int(m[2])
	var needed impl.Mix
	var rests [3]int
	for i, part := range m {
		needed[i] = int16(amount * int(part) / sum)
		rests[i] = amount*int(part) - int(needed[i])*sum
	}
	for _, order := range threeOrders {
		one, two, three := rests[order[0]], rests[order[1]], rests[order[2]]
		if one >= two && two >= three {
			for k := 0; int(needed[0])+int(needed[1])+int(needed[2]) < amount; k++ {
				needed[order[k]]++
			}
		}
	}
	return needed
}

// isStocked reports whether a stock has what is needed.
func isStocked(stock, needed impl.Mix) bool {
	return stock[0] >= needed[0] && stock[1] >= needed[1] && stock[2] >= needed[2]
}

// enoughFor returns the greatest one of some amounts for which a stock is
// enough, and whether it is not enough for one that is less.
func enoughFor(needed []impl.Mix, stock impl.Mix) (int, bool) {
	greatest, count := 0, 0
	for amount, one := range needed {
		if isStocked(stock, one) {
			greatest, count = amount, count+1
		}
	}
	return greatest, count <= greatest
}

// allNeeded returns what all amounts need, up to a greatest one.
func allNeeded(m impl.Mix, most int) []impl.Mix {
	var list []impl.Mix
	for amount := range most + 1 {
		list = append(list, neededOf(m, amount))
	}
	return list
}

// worksText returns the text of rows.
func worksText(rows []impl.Row) string {
	var words []string
	for _, r := range rows {
		words = append(words, strconv.Itoa(int(r.Need))+":"+strconv.Itoa(int(r.Work)))
	}
	return strings.Join(words, " ")
}

// worksTexts matches all texts of valid rows.
var worksTexts = regexp.MustCompile(`\A([0-9]:([1-9][0-9]{0,2}|1[0-9]{3}|2000)( [0-9]:([1-9][0-9]{0,2}|1[0-9]{3}|2000)){0,5})?\z`)

// isWorksText reports whether a text is that of valid rows.
func isWorksText(s string) bool { return worksTexts.MatchString(s) }

// someGang returns a valid gang with a skill up to the most.
func someGang(d *dice, skill int) impl.Gang {
	return gang(int8(d.below(skill+1)), int8(1+d.below([]int{5, 20, 100}[d.below(3)])), int8(1+d.below([]int{2, 9}[d.below(2)])), int8(d.below(10)), int16(d.below([]int{3, 30, 1001}[d.below(3)])))
}

// someGangs returns so many valid gangs, the last one of which has all skills.
func someGangs(d *dice, count int) []impl.Gang {
	var gangs []impl.Gang
	for i := range count {
		gangs = append(gangs, someGang(d, 9))
		if i == count-1 && d.below(4) > 0 {
			gangs[i].Skill = 9
		}
	}
	return gangs
}

// someWorks returns so many valid rows, each one with work up to the most.
func someWorks(d *dice, count, most int) []impl.Row {
	var rows []impl.Row
	for range count {
		rows = append(rows, works(d.below(1+d.below(10)), 1+d.below(most))...)
	}
	return rows
}

// someMix returns a valid mix with parts up to the most.
func someMix(d *dice, most int) impl.Mix {
	m := impl.Mix{int16(d.below(most + 1)), int16(d.below(most + 1)), int16(d.below(most + 1))}
	if !isMixRight(m) {
		m[d.below(3)] = 1
	}
	return m
}

// notGangs returns gangs that are not valid.
func notGangs() map[string]impl.Gang {
	good := gang(5, 50, 5, 5, 500)
	bad := func(change func(g *impl.Gang)) impl.Gang {
		g := good
		change(&g)
		return g
	}
	return map[string]impl.Gang{
		"nothing":               {},
		"a skill below 0":       bad(func(g *impl.Gang) { g.Skill = -1 }),
		"a skill of 10":         bad(func(g *impl.Gang) { g.Skill = 10 }),
		"the least skill":       bad(func(g *impl.Gang) { g.Skill = -128 }),
		"the greatest skill":    bad(func(g *impl.Gang) { g.Skill = 127 }),
		"no pace":               bad(func(g *impl.Gang) { g.Pace = 0 }),
		"a pace of 101":         bad(func(g *impl.Gang) { g.Pace = 101 }),
		"a pace below 0":        bad(func(g *impl.Gang) { g.Pace = -50 }),
		"no knees":              bad(func(g *impl.Gang) { g.Knees = 0 }),
		"10 knees":              bad(func(g *impl.Gang) { g.Knees = 10 }),
		"knees below 0":         bad(func(g *impl.Gang) { g.Knees = -1 }),
		"a rest below 0":        bad(func(g *impl.Gang) { g.Rest = -1 }),
		"a rest of 10":          bad(func(g *impl.Gang) { g.Rest = 10 }),
		"a wage below 0":        bad(func(g *impl.Gang) { g.Wage = -1 }),
		"a wage of 1001":        bad(func(g *impl.Gang) { g.Wage = 1001 }),
		"the greatest wage":     bad(func(g *impl.Gang) { g.Wage = 32767 }),
		"a pace, and no others": {Pace: 1},
		"knees, and no others":  {Knees: 1},
	}
}

// notWorks returns rows that are not valid.
func notWorks() map[string][]impl.Row {
	return map[string][]impl.Row{
		"no work":                   works(0, 0),
		"work below 0":              works(0, -1),
		"work of 2001":              works(0, 2001),
		"the greatest work":         works(0, 32767),
		"the least work":            works(0, -32768),
		"a need below 0":            works(-1, 1),
		"a need of 10":              works(10, 1),
		"the greatest need":         works(127, 1),
		"the least need":            works(-128, 1),
		"the last one has no work":  works(0, 1, 0, 1, 0, 1, 0, 0),
		"the first one has no work": works(0, 0, 0, 1),
		"the last one needs 10":     works(0, 1, 0, 1, 10, 1),
		"seven rows":                works(0, 1, 0, 1, 0, 1, 0, 1, 0, 1, 0, 1, 0, 1),
		"seven rows with much work": works(0, 2000, 0, 2000, 0, 2000, 0, 2000, 0, 2000, 0, 2000, 0, 2000),
		"many rows":                 make([]impl.Row, 300),
	}
}

// notMixes returns mixes that are not valid.
func notMixes() []impl.Mix {
	return []impl.Mix{{}, {-1, 1, 1}, {1, -1, 1}, {1, 1, -1}, {101, 1, 1}, {1, 101, 1}, {1, 1, 101}, {0, 0, -1}, {-1, -1, -1}, {32767, 0, 0}, {0, -32768, 0}, {5000, 5000, 5000}, {100, 100, 101}, {256, 0, 0}}
}
