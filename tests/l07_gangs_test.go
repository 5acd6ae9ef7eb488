package tests

import (
	"fmt"
	"math"
	"slices"
	"strings"
	"testing"

	"loop.example/g01383/impl"
)

func daysCall(g impl.Gang, work int64) liftCall {
	return liftCall{"DaysFor", func() []any { return all(impl.DaysFor(g, work)) }, all(0)}
}

func mayLayCall(g impl.Gang, r impl.Row) liftCall {
	return liftCall{"MayLay", func() []any { return all(impl.MayLay(g, r)) }, all(false)}
}

// planCalls returns the functions with rows and a list of gangs, that of the
// cheapest plan at last.
func planCalls(rows []impl.Row, gangs []impl.Gang, plan []int64, days int64) []liftCall {
	return []liftCall{
		{"CheckPlan", func() []any { return all(impl.CheckPlan(rows, gangs, plan)) }, all(false)},
		{"PlanDays", func() []any { return all(impl.PlanDays(rows, gangs, plan)) }, all(0)},
		{"PlanCost", func() []any { return all(impl.PlanCost(rows, gangs, plan)) }, all(0)},
		{"FastestPlan", func() []any { return all(impl.FastestPlan(rows, gangs)) }, all("[]", 0)},
		{"CheapestPlan", func() []any { return all(impl.CheapestPlan(rows, gangs, days)) }, all("[]", 0)},
	}
}

func cheapestCall(rows []impl.Row, gangs []impl.Gang, days int64) liftCall {
	return planCalls(rows, gangs, nil, days)[4]
}

func meetAtCall(rows []impl.Row, a, b impl.Gang) liftCall {
	return liftCall{"MeetAt", func() []any { return all(impl.MeetAt(rows, a, b)) }, all(0, 0)}
}

func calendarCall(start, days int64) liftCall {
	return liftCall{"CalendarDays", func() []any { return all(impl.CalendarDays(start, days)) }, all(0)}
}

func mixForCall(m impl.Mix, amount int64) liftCall {
	return liftCall{"MixFor", func() []any { return all(impl.MixFor(m, amount)) }, all(impl.Mix{})}
}

func bagsCall(m impl.Mix, amount, bag int64) liftCall {
	return liftCall{"BagsFor", func() []any { return all(impl.BagsFor(m, amount, bag)) }, all("[]", 0)}
}

func mostCall(m, stock impl.Mix) liftCall {
	return liftCall{"MostFrom", func() []any { return all(impl.MostFrom(m, stock)) }, all(0)}
}

func bestMixCall(list []impl.Mix, stock impl.Mix) liftCall {
	return liftCall{"BestMix", func() []any { return all(impl.BestMix(list, stock)) }, all(0, 0)}
}

// slowGang and quickGang are those of the example.
func slowGang() impl.Gang  { return gang(3, 10, 2, 1, 5) }
func quickGang() impl.Gang { return gang(9, 20, 5, 0, 20) }

// notStocks returns stocks with numbers that are out of their range.
func notStocks() []impl.Mix {
	return []impl.Mix{{-1, 0, 0}, {0, -1, 0}, {0, 0, -1}, {5001, 0, 0}, {0, 5001, 0}, {0, 0, 5001}, {32767, 0, 0}, {0, 0, -32768}, {5000, 5000, 5001}}
}

func TestLimitsOfGangs(t *testing.T) {
	check(t, "limits", all(impl.MaxGangs, impl.MaxRows, impl.MaxWork, impl.MaxSpan, impl.MaxAmount), "[4 6 2000 1000 5000]")
}

func TestValidGang(t *testing.T) {
	for _, g := range []impl.Gang{gang(0, 1, 1, 0, 0), gang(9, 100, 9, 9, 1000), gang(9, 1, 9, 0, 1000), gang(0, 100, 1, 9, 0), slowGang(), quickGang()} {
		check(t, fmt.Sprint("ValidGang of ", g), impl.ValidGang(g), true)
	}
	good, rows := slowGang(), works(2, 25, 3, 40)
	for name, g := range notGangs() {
		check(t, "ValidGang: "+name, impl.ValidGang(g), false)
		for _, work := range []int64{0, 1, -1, 2001} {
			checkCode(t, name, 1, daysCall(g, work))
		}
		checkCode(t, name, 1, mayLayCall(g, rows[0]), mayLayCall(g, works(0, 0)[0]))
		for _, gangs := range [][]impl.Gang{{g}, {good, g}, {g, good}, {good, good, good, g}, {good, good, good, good, g}, {g, good, good, good, good, good}} {
			for _, rows := range [][]impl.Row{nil, rows, works(0, 2000, 0, 1), works(0, 0)} {
				checkCode(t, name, 1, planCalls(rows, gangs, []int64{0, 0}, 10)...)
				checkCode(t, name, 1, planCalls(rows, gangs, []int64{9}, -1)...)
			}
		}
		for _, rows := range [][]impl.Row{nil, rows, works(0, 2000, 0, 1), works(9, 1)} {
			checkCode(t, name, 1, meetAtCall(rows, g, good), meetAtCall(rows, good, g), meetAtCall(rows, g, g))
		}
	}
}

// TestValidGangOfAnyNumbers has gangs with a number near the least or the
// greatest one each time.
func TestValidGangOfAnyNumbers(t *testing.T) {
	d := dice(101)
	near := func(numbers ...int) int { return numbers[d.below(len(numbers))] }
	valid := 0
	for range 20000 {
		g := gang(int8(near(0, 1, 8, 9, 9, -1, 10)), int8(near(1, 2, 99, 100, 100, 0, 101)), int8(near(1, 2, 8, 9, 9, 0, 10)), int8(near(0, 1, 8, 9, 9, -1, 10)), int16(near(0, 1, 999, 1000, 1000, -1, 1001)))
		if check(t, fmt.Sprint("ValidGang of ", g), impl.ValidGang(g), isGangRight(g)); isGangRight(g) {
			valid++
		}
	}
	if valid < 2000 || valid > 18000 {
		t.Errorf("%d gangs were valid", valid)
	}
}

func TestValidRows(t *testing.T) {
	for _, rows := range [][]impl.Row{nil, {}, works(0, 1), works(9, 2000), works(0, 2000, 9, 2000, 0, 1, 0, 1, 0, 1, 9, 2000)} {
		check(t, fmt.Sprint("ValidRows of ", rows), impl.ValidRows(rows), true)
	}
	for name, rows := range notWorks() {
		check(t, name, all(impl.ValidRows(rows), impl.RowsText(rows)), "[false ]")
		checkCode(t, name, 1, meetAtCall(rows, slowGang(), quickGang()), meetAtCall(rows, quickGang(), quickGang()))
		for _, gangs := range [][]impl.Gang{nil, {slowGang()}, {slowGang(), quickGang()}, slices.Repeat([]impl.Gang{quickGang()}, 5)} {
			checkCode(t, name, 1, planCalls(rows, gangs, make([]int64, len(rows)), 10)...)
			checkCode(t, name, 1, planCalls(rows, gangs, nil, 1001)...)
		}
	}
	d := dice(102)
	for range 5000 {
		r := works([]int{0, 4, 9, -1, 10}[d.below(5)], []int{1, 2, 1999, 2000, 0, 2001}[d.below(6)])[0]
		check(t, fmt.Sprint("ValidRows of ", r), impl.ValidRows([]impl.Row{r}), isRowRight(r))
		check(t, fmt.Sprint("ValidRows of ", r), impl.ValidRows([]impl.Row{{Work: 1}, r}), isRowRight(r))
		if _, code := impl.MayLay(quickGang(), r); (code == impl.OK) != isRowRight(r) {
			t.Errorf("MayLay of %v: %d", r, code)
		}
	}
}

// TestDaysFor lets gangs work all days up to some, and some more.
func TestDaysFor(t *testing.T) {
	d := dice(103)
	for knees := int8(1); knees <= 9; knees++ {
		for rest := range int8(10) {
			for work := range 60 {
				g := gang(int8(work%10), int8(1+work%3), knees, rest, 7)
				check(t, fmt.Sprint("DaysFor of ", g, ", ", work), all(impl.DaysFor(g, int64(work))), all(daysBy(g, work), 0))
			}
		}
	}
	for range 5000 {
		g, work := someGang(&d, 9), d.below(2001)
		check(t, fmt.Sprint("DaysFor of ", g, ", ", work), all(impl.DaysFor(g, int64(work))), all(daysBy(g, work), 0))
	}
	for _, work := range beyond(2000) {
		checkCode(t, fmt.Sprint("the work ", work), 2, daysCall(slowGang(), work), daysCall(gang(0, 100, 9, 0, 0), work))
	}
}

func TestDaysOfSomeKinds(t *testing.T) {
	for name, c := range map[string]struct {
		g    impl.Gang
		work int64
		days int64
	}{
		"no work":                            {slowGang(), 0, 0},
		"no work, knees of 1":                {gang(0, 1, 1, 9, 0), 0, 0},
		"a part of a day":                    {slowGang(), 1, 1},
		"a whole day":                        {slowGang(), 10, 1},
		"a day and more":                     {slowGang(), 11, 2},
		"just the knees":                     {slowGang(), 20, 2},
		"a day behind the knees":             {slowGang(), 21, 4},
		"twice the knees":                    {slowGang(), 40, 5},
		"a day behind twice the knees":       {slowGang(), 41, 7},
		"no rest":                            {quickGang(), 2000, 100},
		"knees of 1":                         {gang(0, 10, 1, 3, 0), 30, 9},
		"as slow as can be":                  {gang(0, 1, 1, 9, 0), 2000, 2000 + 1999*9},
		"as quick as can be":                 {gang(9, 100, 9, 0, 0), 2000, 20},
		"rests of 9 behind 9, twice":         {gang(9, 100, 9, 9, 0), 2000, 20 + 2*9},
		"no rest behind the last one of 9":   {gang(9, 100, 9, 9, 0), 1800, 18 + 9},
		"no rest behind the last one, for 1": {gang(9, 100, 1, 9, 0), 100, 1},
	} {
		check(t, "DaysFor: "+name, all(impl.DaysFor(c.g, c.work)), all(c.days, 0))
	}
}

func TestMayLay(t *testing.T) {
	for skill := range int8(10) {
		for need := range 10 {
			g := slowGang()
			g.Skill = skill
			for _, work := range []int{1, 25, 2000} {
				check(t, fmt.Sprint("MayLay of ", skill, ", ", need), all(impl.MayLay(g, works(need, work)[0])), all(int(skill) >= need, 0))
			}
		}
	}
	for _, r := range works(-1, 1, 10, 1, 127, 1, -128, 1, 0, 0, 9, 0, 0, -1, 0, 2001, 9, 32767, 9, -32768) {
		checkCode(t, fmt.Sprint("the row ", r), 1, mayLayCall(slowGang(), r), mayLayCall(quickGang(), r))
	}
}

// TestCheckPlan tries all lists, also with gangs that there are not.
func TestCheckPlan(t *testing.T) {
	d := dice(104)
	right, wrong := 0, 0
	for count := range 4 {
		for rows := range 4 {
			for range 6 {
				gangs, rows := someGangs(&d, count), someWorks(&d, rows, 90)
				for long := range 5 {
					for _, plan := range allLists(long, count+1) {
						is := isPlanRight(rows, gangs, plan)
						check(t, fmt.Sprint("CheckPlan of ", rows, ", ", gangs, ", ", plan), all(impl.CheckPlan(rows, gangs, plan)), all(is, 0))
						if is {
							right++
							continue
						}
						wrong++
						checkCode(t, fmt.Sprint(rows, ", ", gangs, ", ", plan), 4, planCalls(rows, gangs, plan, 0)[1:3]...)
					}
				}
			}
		}
	}
	if right < 250 || wrong < 3000 {
		t.Errorf("%d plans were right, and %d were not", right, wrong)
	}
}

func TestPlansThatAreNotRight(t *testing.T) {
	rows, gangs := works(2, 25, 5, 40, 3, 1), []impl.Gang{slowGang(), quickGang()}
	wrong := map[string][]int64{
		"no numbers":              nil,
		"too few numbers":         {0, 1},
		"too many numbers":        {0, 1, 0, 1},
		"many numbers":            make([]int64, 300),
		"a gang that may not":     {0, 0, 0},
		"the first one that is":   {1, 0, 1},
		"no gang at first":        {2, 1, 1},
		"no gang at last":         {1, 1, 2},
		"below 0 between others":  {1, -1, 1},
		"right, but for a number": {0, 1, 0, 2},
	}
	for _, n := range numbersFar() {
		wrong[fmt.Sprint("at first ", n)] = []int64{n, 1, 1}
		wrong[fmt.Sprint("at last ", n)] = []int64{1, 1, n}
	}
	for name, plan := range wrong {
		check(t, "CheckPlan: "+name, all(impl.CheckPlan(rows, gangs, plan)), "[false 0]")
		checkCode(t, name, 4, planCalls(rows, gangs, plan, 0)[1:3]...)
		five := slices.Repeat(gangs, 3)[:5]
		checkCode(t, name+", five gangs", 3, planCalls(rows, five, plan, 0)...)
		checkCode(t, name+", much work", 2, planCalls(works(0, 2000, 0, 1), gangs, plan, 0)...)
	}
	check(t, "no rows", all(impl.CheckPlan(nil, gangs, nil)), "[true 0]")
	check(t, "no rows and no gangs", all(impl.CheckPlan(nil, nil, nil)), "[true 0]")
	check(t, "no rows, and a number", all(impl.CheckPlan(nil, gangs, []int64{0})), "[false 0]")
	check(t, "rows without gangs", all(impl.CheckPlan(rows, nil, nil)), "[false 0]")
	check(t, "rows without gangs, and a plan", all(impl.CheckPlan(rows, nil, []int64{0, 0, 0})), "[false 0]")
	check(t, "days of no rows", all(impl.PlanDays(nil, nil, nil)), "[0 0]")
	check(t, "cost of no rows", all(impl.PlanCost(nil, gangs, []int64{})), "[0 0]")
}

// TestOrderOfErrorsOfGangs has limits that are reached exactly, and more than
// one error at once.
func TestOrderOfErrorsOfGangs(t *testing.T) {
	one := gang(9, 100, 9, 0, 1)
	four, five := slices.Repeat([]impl.Gang{one}, 4), slices.Repeat([]impl.Gang{one}, 5)
	most, more := works(0, 1999, 9, 1), works(0, 2000, 0, 1)
	check(t, "four gangs, CheckPlan", all(impl.CheckPlan(most, four, []int64{3, 3})), "[true 0]")
	check(t, "four gangs, PlanDays", all(impl.PlanDays(most, four, []int64{3, 3})), "[20 0]")
	check(t, "four gangs, PlanCost", all(impl.PlanCost(most, four, []int64{0, 3})), "[21 0]")
	check(t, "four gangs, FastestPlan", all(impl.FastestPlan(most, four)), "[[0 0] 20 0]")
	check(t, "four gangs, CheapestPlan", all(impl.CheapestPlan(most, four, 1000)), "[[0 0] 20 0]")
	check(t, "the most work, MeetAt", all(impl.MeetAt(most, one, one)), "[0 20 0]")
	for name, plan := range map[string][]int64{"right": {0, 0}, "too short": {0}, "no gang": {0, 5}} {
		for _, days := range []int64{0, 1000, 1001, -1} {
			checkCode(t, "five gangs, "+name, 3, planCalls(most, five, plan, days)...)
			checkCode(t, "five gangs and too much work, "+name, 3, planCalls(more, five, plan, days)...)
			checkCode(t, "too much work, "+name, 2, planCalls(more, four, plan, days)...)
			checkCode(t, "too much work without gangs, "+name, 2, planCalls(more, nil, plan, days)...)
			checkCode(t, "too much work that none may lay, "+name, 2, planCalls(works(9, 2000, 9, 2000), []impl.Gang{slowGang()}, plan, days)...)
		}
	}
	checkCode(t, "too much work, and none may lay it", 2, meetAtCall(works(9, 2000, 9, 1), slowGang(), slowGang()), meetAtCall(more, one, one))
	checkCode(t, "the work of six rows", 2, meetAtCall(works(0, 2000, 0, 2000, 0, 2000, 0, 2000, 0, 2000, 0, 2000), one, one))
	for _, days := range beyond(1000) {
		name := fmt.Sprint(days, " days")
		checkCode(t, name, 2, cheapestCall(most, four, days), cheapestCall(nil, nil, days), cheapestCall(most, nil, days), cheapestCall(works(9, 1), []impl.Gang{slowGang()}, days))
		checkCode(t, name+", five gangs", 3, cheapestCall(most, five, days), cheapestCall(nil, five, days))
	}
	checkCode(t, "five gangs, no rows", 3, planCalls(nil, five, nil, 0)...)
}

func TestPlanDaysAndPlanCost(t *testing.T) {
	d := dice(105)
	changes := 0
	for range 3000 {
		gangs, rows := someGangs(&d, 1+d.below(4)), someWorks(&d, 1+d.below(6), []int{20, 333}[d.below(2)])
		gangs[0].Skill = 9
		plan := make([]int64, len(rows))
		for i := range plan {
			if index := int64(d.below(len(gangs))); gangs[index].Skill >= rows[i].Need {
				plan[i] = index
			}
			if i > 0 && plan[i] != plan[i-1] {
				changes++
			}
		}
		days, cost := spentOn(rows, gangs, plan)
		name := fmt.Sprint(" of ", rows, ", ", gangs, ", ", plan)
		check(t, "PlanDays"+name, all(impl.PlanDays(rows, gangs, plan)), all(days, 0))
		check(t, "PlanCost"+name, all(impl.PlanCost(rows, gangs, plan)), all(cost, 0))
	}
	if changes < 2000 {
		t.Errorf("there were only %d changes", changes)
	}
}

// TestPlansOfSomeKinds has rests and changes where they are, and where they are
// not.
func TestPlansOfSomeKinds(t *testing.T) {
	two := []impl.Gang{slowGang(), quickGang()}
	weak := []impl.Gang{gang(0, 10, 1, 9, 1000), gang(0, 10, 1, 9, 1000), gang(0, 10, 1, 9, 0)}
	for name, c := range map[string]struct {
		rows       []impl.Row
		gangs      []impl.Gang
		plan       []int64
		days, cost int64
	}{
		"rests within a run":           {works(2, 25, 2, 40), two, []int64{0, 0}, 10, 50},
		"a change, with rests before":  {works(2, 25, 2, 40), two, []int64{0, 1}, 7, 60},
		"a change, with rests behind":  {works(2, 25, 2, 40), two, []int64{1, 0}, 8, 65},
		"no rests":                     {works(2, 25, 2, 40), two, []int64{1, 1}, 4, 80},
		"rows on one day":              {works(0, 4, 0, 4), weak, []int64{0, 0}, 1, 1000},
		"rows on one day, and more":    {works(0, 4, 0, 7), weak, []int64{0, 0}, 11, 11000},
		"a change on one day":          {works(0, 4, 0, 4), weak, []int64{0, 1}, 3, 2000},
		"changes there and back":       {works(0, 4, 0, 4, 0, 4), weak, []int64{0, 1, 0}, 5, 3000},
		"two runs of a gang":           {works(0, 10, 0, 4, 0, 10), weak, []int64{0, 2, 0}, 5, 2000},
		"no rest behind a run":         {works(0, 10, 0, 10, 0, 10), weak, []int64{0, 1, 2}, 5, 2000},
		"rests of one run of three":    {works(0, 10, 0, 10, 0, 10), weak, []int64{0, 0, 0}, 21, 21000},
		"a run of two behind another":  {works(0, 10, 0, 10, 0, 10), weak, []int64{1, 0, 0}, 13, 12000},
		"a run of two ahead of other":  {works(0, 10, 0, 10, 0, 10), weak, []int64{0, 0, 1}, 13, 12000},
		"rests that cost nothing":      {works(0, 10, 0, 10), weak, []int64{2, 2}, 11, 0},
		"a change between equal gangs": {works(0, 10, 0, 10), weak, []int64{0, 1}, 3, 2000},
		"one row":                      {works(0, 2000), []impl.Gang{gang(0, 1, 1, 9, 1000)}, []int64{0}, 19991, 19991000},
		"six rows as one":              {works(0, 300, 0, 300, 0, 300, 0, 300, 0, 300, 0, 500), []impl.Gang{gang(0, 1, 1, 9, 1000)}, []int64{0, 0, 0, 0, 0, 0}, 19991, 19991000},
	} {
		check(t, "CheckPlan: "+name, all(impl.CheckPlan(c.rows, c.gangs, c.plan)), "[true 0]")
		check(t, "PlanDays: "+name, all(impl.PlanDays(c.rows, c.gangs, c.plan)), all(c.days, 0))
		check(t, "PlanCost: "+name, all(impl.PlanCost(c.rows, c.gangs, c.plan)), all(c.cost, 0))
	}
}

// checkLeast checks the fastest plan, and the cheapest ones within some days,
// against all right plans.
func checkLeast(t *testing.T, rows []impl.Row, gangs []impl.Gang, spans ...int64) (plans int) {
	t.Helper()
	name := fmt.Sprint(" of ", rows, ", ", gangs)
	fast, fewest, code := impl.FastestPlan(rows, gangs)
	check(t, "FastestPlan"+name, all(fast, fewest, code), fastestOf(rows, gangs))
	right := rightPlans(rows, gangs)
	if code == impl.OK {
		check(t, "PlanDays of the fastest one"+name, all(impl.PlanDays(rows, gangs, fast)), all(fewest, 0))
		spans = append(spans, fewest, fewest-1, fewest+1, fewest+9)
	}
	for _, plan := range right {
		if days, code := impl.PlanDays(rows, gangs, plan); code != impl.OK || days < fewest {
			t.Errorf("FastestPlan%s takes %d days, but %v takes %d, %d", name, fewest, plan, days, code)
		}
	}
	for _, span := range spans {
		if span < 0 || span > 1000 {
			continue
		}
		cheap, least, code := impl.CheapestPlan(rows, gangs, span)
		check(t, fmt.Sprint("CheapestPlan", name, ", ", span), all(cheap, least, code), cheapestOf(rows, gangs, span))
		if code == impl.OK {
			check(t, fmt.Sprint("PlanCost of the cheapest one", name, ", ", span), all(impl.PlanCost(rows, gangs, cheap)), all(least, 0))
		}
	}
	return len(right)
}

// Promises 16 and 18: no right plan takes fewer days than the fastest one, and
// none within the days costs less than the cheapest one.
func TestNoRightPlanIsFaster(t *testing.T) {
	d := dice(106)
	none, many := 0, 0
	for count := range 5 {
		for long := range 7 {
			for range 8 {
				if count*long > 15 && d.below(3) > 0 {
					continue
				}
				gangs, rows := someGangs(&d, count), someWorks(&d, long, []int{9, 60, 200}[d.below(3)])
				switch plans := checkLeast(t, rows, gangs, 0, int64(d.below(1001)), 1000); {
				case plans == 0:
					none++
				case plans > 50:
					many++
				}
			}
		}
	}
	if none < 20 || many < 20 {
		t.Errorf("there were no plans %d times, and many %d times", none, many)
	}
}

// TestNoRightPlanIsFasterOfLikeGangs has gangs that are nearly alike, so that
// several plans are equal.
func TestNoRightPlanIsFasterOfLikeGangs(t *testing.T) {
	d := dice(107)
	later := 0
	for range 400 {
		var gangs []impl.Gang
		for range 2 + d.below(2) {
			gangs = append(gangs, gang(int8(8+d.below(2)), int8(10*(1+d.below(2))), int8(1+d.below(2)), int8(3*d.below(2)), int16(d.below(2))))
		}
		var rows []impl.Row
		for range 1 + d.below(4) {
			rows = append(rows, works(7+d.below(3), 10*(1+d.below(3)))...)
		}
		checkLeast(t, rows, gangs, 5, 1000)
		if plan, _, _ := impl.FastestPlan(rows, gangs); len(distinct(plan)) > 1 {
			later++
		}
	}
	if later < 50 {
		t.Errorf("only %d plans had changes", later)
	}
}

func TestFastestPlanOfSomeKinds(t *testing.T) {
	weak, quick := gang(0, 10, 1, 9, 1000), quickGang()
	for name, c := range map[string]struct {
		rows  []impl.Row
		gangs []impl.Gang
		want  string
	}{
		"no rows, no gangs":               {nil, nil, "[[] 0 0]"},
		"no rows":                         {nil, []impl.Gang{weak, quick}, "[[] 0 0]"},
		"no gangs":                        {works(0, 1), nil, "[[] 0 6]"},
		"none may":                        {works(4, 1), []impl.Gang{slowGang(), weak}, "[[] 0 6]"},
		"none may lay the last one":       {works(0, 1, 0, 1, 4, 1), []impl.Gang{slowGang(), weak}, "[[] 0 6]"},
		"just enough skill":               {works(3, 1), []impl.Gang{weak, slowGang()}, "[[1] 1 0]"},
		"the first of equal gangs":        {works(0, 10, 0, 10), []impl.Gang{quick, quick, quick, quick}, "[[0 0] 1 0]"},
		"the first of those as fast":      {works(0, 10), []impl.Gang{weak, quick}, "[[0] 1 0]"},
		"the fastest one comes last":      {works(0, 20), []impl.Gang{weak, slowGang(), quick}, "[[2] 1 0]"},
		"changes are faster than rests":   {works(0, 10, 0, 10, 0, 10), []impl.Gang{weak, weak}, "[[0 1 0] 5 0]"},
		"rests are as fast as a change":   {works(0, 10, 0, 10), []impl.Gang{gang(0, 10, 1, 1, 0), gang(0, 10, 1, 1, 0)}, "[[0 0] 3 0]"},
		"a change is as fast as slowness": {works(0, 10, 0, 20), []impl.Gang{gang(0, 10, 9, 0, 0), gang(0, 20, 9, 0, 0)}, "[[1 1] 2 0]"},
		"a gang that may only lay one":    {works(9, 20, 0, 100), []impl.Gang{gang(0, 100, 9, 0, 0), quick}, "[[1 0] 3 0]"},
		"more than 1000 days":             {works(0, 2000), []impl.Gang{gang(0, 1, 1, 9, 1000)}, "[[0] 19991 0]"},
		"a day for all, by the last one":  {works(0, 50, 0, 50), []impl.Gang{quick, gang(0, 100, 1, 9, 9)}, "[[1 1] 1 0]"},
		"the quickest one may not":        {works(1, 20, 1, 20), []impl.Gang{gang(0, 100, 9, 0, 0), slowGang(), quick}, "[[2 2] 2 0]"},
	} {
		check(t, "FastestPlan: "+name, all(impl.FastestPlan(c.rows, c.gangs)), c.want)
	}
}

func TestCheapestPlanOfSomeKinds(t *testing.T) {
	rows, two := works(2, 25, 5, 40), []impl.Gang{slowGang(), quickGang()}
	free, dear := gang(0, 10, 1, 9, 0), gang(0, 10, 1, 9, 1000)
	slow := gang(0, 1, 9, 0, 3)
	for name, c := range map[string]struct {
		rows  []impl.Row
		gangs []impl.Gang
		days  int64
		want  string
	}{
		"no rows, no gangs, no days":    {nil, nil, 0, "[[] 0 0]"},
		"no rows":                       {nil, two, 1000, "[[] 0 0]"},
		"no gangs":                      {rows, nil, 1000, "[[] 0 6]"},
		"none may":                      {works(4, 1), []impl.Gang{slowGang(), free}, 1000, "[[] 0 6]"},
		"no days":                       {works(0, 1), two, 0, "[[] 0 6]"},
		"many days":                     {rows, two, 1000, "[[0 1] 60 0]"},
		"just as many days":             {rows, two, 7, "[[0 1] 60 0]"},
		"a day less":                    {rows, two, 6, "[[1 1] 80 0]"},
		"just as many for the fastest":  {rows, two, 4, "[[1 1] 80 0]"},
		"a day less than the fastest":   {rows, two, 3, "[[] 0 6]"},
		"the first of equal gangs":      {works(0, 10, 0, 10), []impl.Gang{dear, dear}, 1000, "[[0 1] 2000 0]"},
		"the change is within the days": {works(0, 10, 0, 10), []impl.Gang{dear, dear}, 3, "[[0 1] 2000 0]"},
		"the change takes too long":     {works(0, 10, 0, 10), []impl.Gang{dear, dear}, 2, "[[] 0 6]"},
		"that costs nothing comes last": {works(0, 10, 0, 10), []impl.Gang{dear, free}, 1000, "[[1 1] 0 0]"},
		"nothing, but too long":         {works(0, 10, 0, 10), []impl.Gang{dear, free}, 10, "[[0 1] 1000 0]"},
		"all cost nothing":              {works(0, 10, 0, 10), []impl.Gang{free, free}, 1000, "[[0 0] 0 0]"},
		"all cost nothing, a few days":  {works(0, 10, 0, 10), []impl.Gang{free, free}, 10, "[[0 1] 0 0]"},
		"as many days as there may be":  {works(0, 999, 0, 1), []impl.Gang{slow}, 1000, "[[0 0] 3000 0]"},
		"a day less than these":         {works(0, 999, 0, 1), []impl.Gang{slow}, 999, "[[] 0 6]"},
		"a day more than these":         {works(0, 999, 0, 2), []impl.Gang{slow}, 1000, "[[] 0 6]"},
		"the slower one is cheaper":     {works(0, 20), []impl.Gang{gang(0, 20, 9, 0, 9), gang(0, 10, 9, 0, 4)}, 2, "[[1] 8 0]"},
		"as cheap, and slower":          {works(0, 20), []impl.Gang{gang(0, 10, 9, 0, 4), gang(0, 20, 9, 0, 8)}, 2, "[[0] 8 0]"},
	} {
		check(t, "CheapestPlan: "+name, all(impl.CheapestPlan(c.rows, c.gangs, c.days)), c.want)
	}
}

func TestMeetAt(t *testing.T) {
	d := dice(108)
	between := 0
	for range 4000 {
		rows := someWorks(&d, d.below(7), []int{9, 100, 333}[d.below(3)])
		a, b := someGang(&d, 9), someGang(&d, 9)
		if d.below(2) == 0 {
			a.Skill, b.Skill = 9, int8(5+d.below(5))
		}
		want := meetingOf(rows, a, b)
		check(t, fmt.Sprint("MeetAt of ", rows, ", ", a, ", ", b), all(impl.MeetAt(rows, a, b)), want)
		if count := want[0].(int); count > 0 && count < len(rows) {
			between++
		}
	}
	if between < 500 {
		t.Errorf("only %d times both gangs laid rows", between)
	}
}

func TestMeetAtOfSomeKinds(t *testing.T) {
	slow, quick := slowGang(), quickGang()
	for name, c := range map[string]struct {
		rows []impl.Row
		a, b impl.Gang
		want string
	}{
		"the example":                  {works(2, 25, 5, 40), slow, quick, "[0 4 0]"},
		"the other way":                {works(2, 25, 5, 40), quick, slow, "[2 4 0]"},
		"no rows":                      {nil, slow, quick, "[0 0 0]"},
		"one row, the first count":     {works(0, 10), slow, slow, "[0 1 0]"},
		"in the middle":                {works(0, 40, 0, 40, 0, 40, 0, 40), slow, slow, "[2 11 0]"},
		"the least of several":         {works(0, 1, 0, 1, 0, 1, 0, 1), slow, slow, "[0 1 0]"},
		"the quicker one lays more":    {works(0, 20, 0, 20, 0, 20, 0, 20), quick, gang(0, 10, 9, 0, 0), "[3 3 0]"},
		"a may not lay the first one":  {works(4, 40, 0, 40), slow, quick, "[0 4 0]"},
		"b may not lay the last one":   {works(0, 40, 4, 40), quick, slow, "[2 4 0]"},
		"b may not lay one between":    {works(0, 40, 4, 40, 0, 10), quick, slow, "[2 4 0]"},
		"a may lay the first one only": {works(3, 10, 4, 10, 3, 10), slow, quick, "[1 1 0]"},
		"one that none may lay":        {works(0, 1, 4, 1, 0, 1), slow, slow, "[0 0 6]"},
		"each one at the wrong end":    {works(4, 1, 0, 1), slow, gang(3, 1, 1, 0, 0), "[0 0 6]"},
		"a lays nothing well":          {works(9, 1, 0, 1, 9, 1), slow, quick, "[0 1 0]"},
		"both, and none between":       {works(9, 1, 0, 1, 9, 1), quick, slow, "[3 1 0]"},
		"rests of all of its rows":     {works(0, 10, 0, 10, 0, 10, 0, 10), gang(0, 10, 1, 9, 0), gang(0, 10, 9, 0, 0), "[1 3 0]"},
		"no change is counted":         {works(0, 20, 0, 20), quick, quick, "[1 1 0]"},
		"more than 1000 days":          {works(0, 2000), gang(0, 1, 1, 9, 0), gang(0, 1, 1, 9, 0), "[0 19991 0]"},
	} {
		check(t, "MeetAt: "+name, all(impl.MeetAt(c.rows, c.a, c.b)), c.want)
	}
}

// TestCalendarDays tries all numbers.
func TestCalendarDays(t *testing.T) {
	for start := range int64(7) {
		for days := range int64(1001) {
			if start > 0 && days > 30 && days%50 > 1 {
				continue
			}
			check(t, fmt.Sprint("CalendarDays from ", start, " on, ", days), all(impl.CalendarDays(start, days)), all(calendarBy(start, days), 0))
		}
	}
	for numbers, want := range map[[2]int64]int{{0, 0}: 0, {6, 0}: 0, {0, 1}: 1, {0, 6}: 6, {0, 7}: 8, {5, 1}: 1, {5, 2}: 3, {6, 1}: 2, {6, 6}: 7, {6, 7}: 9, {5, 3}: 4, {0, 1000}: 1166, {6, 1000}: 1167} {
		check(t, fmt.Sprint("CalendarDays ", numbers), all(impl.CalendarDays(numbers[0], numbers[1])), all(want, 0))
	}
	for _, start := range beyond(6) {
		checkCode(t, fmt.Sprint("the day ", start), 2, calendarCall(start, 0), calendarCall(start, 1), calendarCall(start, 1001))
	}
	for _, days := range beyond(1000) {
		checkCode(t, fmt.Sprint(days, " days"), 2, calendarCall(0, days), calendarCall(6, days))
	}
}

func TestValidMix(t *testing.T) {
	for _, m := range []impl.Mix{{1, 0, 0}, {0, 1, 0}, {0, 0, 1}, {100, 0, 0}, {0, 100, 0}, {0, 0, 100}, {100, 100, 100}, {3, 1, 0}} {
		check(t, fmt.Sprint("ValidMix of ", m), impl.ValidMix(m), true)
	}
	good := impl.Mix{3, 1, 0}
	for _, m := range notMixes() {
		name := fmt.Sprint("the mix ", m)
		check(t, name, impl.ValidMix(m), false)
		for _, n := range []int64{0, 1, -1, 5001} {
			checkCode(t, name, 1, mixForCall(m, n), bagsCall(m, n, 1), bagsCall(m, 1, n))
		}
		for _, stock := range append(notStocks(), impl.Mix{}, impl.Mix{9, 9, 9}) {
			checkCode(t, name, 1, mostCall(m, stock), bestMixCall([]impl.Mix{m}, stock), bestMixCall([]impl.Mix{good, m}, stock), bestMixCall([]impl.Mix{m, good}, stock))
			checkCode(t, name, 1, bestMixCall(append(slices.Repeat([]impl.Mix{good}, 20), m), stock), bestMixCall(append(slices.Repeat([]impl.Mix{good}, 300), m, good), stock))
		}
	}
	d := dice(109)
	for range 5000 {
		var m impl.Mix
		for i := range m {
			m[i] = int16([]int{0, 0, 1, 99, 100, -1, 101}[d.below(7)])
		}
		check(t, fmt.Sprint("ValidMix of ", m), impl.ValidMix(m), isMixRight(m))
	}
}

// Promise 17: a mix sums to its amount, and has nearly as much of each part as
// the parts tell.
func TestMixesSumToTheirAmount(t *testing.T) {
	d := dice(110)
	rounded := 0
	for range 20000 {
		m, amount := someMix(&d, []int{3, 10, 100}[d.below(3)]), d.below([]int{10, 100, 5001}[d.below(3)])
		name := fmt.Sprint("MixFor of ", m, ", ", amount)
		got, code := impl.MixFor(m, int64(amount))
		check(t, name, all(got, code), all(neededOf(m, amount), 0))
		if int(got[0])+int(got[1])+int(got[2]) != amount {
			t.Errorf("%s does not sum: %v", name, got)
		}
		sum := int(m[0]) + int(m[1]) + int(m[2])
		for i, part := range m {
			over := int(got[i])*sum - amount*int(part)
			if over <= -sum || over >= sum || part == 0 && got[i] != 0 {
				t.Errorf("%s has too much or too little of %d: %v", name, i, got)
			}
			if over > 0 {
				rounded++
			}
		}
	}
	if rounded < 10000 {
		t.Errorf("only %d numbers were greater than exact", rounded)
	}
	for _, n := range beyond(5000) {
		name := fmt.Sprint("the amount ", n)
		checkCode(t, name, 2, mixForCall(impl.Mix{3, 1, 0}, n), bagsCall(impl.Mix{3, 1, 0}, n, 3), bagsCall(impl.Mix{3, 1, 0}, n, 0))
	}
}

func TestMixForOfSomeKinds(t *testing.T) {
	for name, c := range map[string]struct {
		m      impl.Mix
		amount int64
		want   impl.Mix
	}{
		"nothing":                           {impl.Mix{3, 1, 0}, 0, impl.Mix{}},
		"the example":                       {impl.Mix{3, 1, 0}, 10, impl.Mix{8, 2, 0}},
		"no rests":                          {impl.Mix{3, 1, 0}, 8, impl.Mix{6, 2, 0}},
		"the greatest amount":               {impl.Mix{0, 0, 1}, 5000, impl.Mix{0, 0, 5000}},
		"the greatest parts":                {impl.Mix{100, 100, 100}, 5000, impl.Mix{1667, 1667, 1666}},
		"one of three":                      {impl.Mix{1, 1, 1}, 1, impl.Mix{1, 0, 0}},
		"two of three":                      {impl.Mix{1, 1, 1}, 2, impl.Mix{1, 1, 0}},
		"equal rests, not the first":        {impl.Mix{0, 2, 2}, 3, impl.Mix{0, 2, 1}},
		"equal rests, first and last":       {impl.Mix{2, 0, 2}, 3, impl.Mix{2, 0, 1}},
		"the greatest rest is the last one": {impl.Mix{1, 1, 3}, 1, impl.Mix{0, 0, 1}},
		"the last one, and the first one":   {impl.Mix{2, 2, 3}, 2, impl.Mix{1, 0, 1}},
		"that between, and the last one":    {impl.Mix{1, 3, 3}, 4, impl.Mix{0, 2, 2}},
		"rests, not parts":                  {impl.Mix{1, 3, 3}, 3, impl.Mix{1, 1, 1}},
		"rests, not what there is most of":  {impl.Mix{7, 2, 0}, 4, impl.Mix{3, 1, 0}},
		"a part that there is not":          {impl.Mix{0, 7, 5}, 11, impl.Mix{0, 6, 5}},
		"a great amount of few":             {impl.Mix{100, 1, 0}, 5000, impl.Mix{4950, 50, 0}},
		"few of a great mix":                {impl.Mix{100, 99, 98}, 1, impl.Mix{1, 0, 0}},
	} {
		check(t, "MixFor: "+name, all(impl.MixFor(c.m, c.amount)), all(c.want, 0))
	}
}

// Promise 17: the stock is enough for what is told, and for no greater amount.
func TestStocksAreEnough(t *testing.T) {
	d := dice(111)
	gaps := 0
	for range 150 {
		m := someMix(&d, []int{3, 10, 100}[d.below(3)])
		needed := allNeeded(m, 5000)
		for range 20 {
			stock := needed[d.below([]int{10, 100, 5001}[d.below(3)])]
			for i := range stock {
				stock[i] = int16(min(5000, max(0, int(stock[i])+d.below(4)-1)))
			}
			most, isGap := enoughFor(needed, stock)
			if isGap {
				gaps++
			}
			name := fmt.Sprint(" of ", m, ", ", stock)
			check(t, "MostFrom"+name, all(impl.MostFrom(m, stock)), all(most, 0))
			if got, code := impl.MixFor(m, int64(most)); code != impl.OK || !isStocked(stock, got) {
				t.Errorf("MostFrom%s is not enough: %v", name, got)
			}
		}
	}
	if gaps < 50 {
		t.Errorf("only %d stocks were enough for more, but not for less", gaps)
	}
}

func TestMostFromOfSomeKinds(t *testing.T) {
	for name, c := range map[string]struct {
		m, stock impl.Mix
		most     int64
	}{
		"the example":                     {impl.Mix{3, 1, 0}, impl.Mix{8, 2, 0}, 10},
		"an empty stock":                  {impl.Mix{3, 1, 2}, impl.Mix{}, 0},
		"nothing of one part":             {impl.Mix{1, 1, 1}, impl.Mix{5000, 5000, 0}, 2},
		"nothing of the first part":       {impl.Mix{1, 1, 1}, impl.Mix{0, 5000, 5000}, 0},
		"nothing of a part of no use":     {impl.Mix{3, 1, 0}, impl.Mix{5000, 5000, 0}, 5000},
		"a full stock":                    {impl.Mix{100, 100, 100}, impl.Mix{5000, 5000, 5000}, 5000},
		"just enough for the greatest":    {impl.Mix{1, 1, 1}, impl.Mix{1667, 1667, 1666}, 5000},
		"one less for the greatest":       {impl.Mix{1, 1, 1}, impl.Mix{1667, 1667, 1665}, 4997},
		"more, but not less":              {impl.Mix{1, 3, 3}, impl.Mix{0, 2, 2}, 4},
		"more, but not less, and too few": {impl.Mix{1, 3, 3}, impl.Mix{0, 2, 1}, 2},
		"one part alone":                  {impl.Mix{0, 0, 7}, impl.Mix{0, 0, 4999}, 4999},
	} {
		check(t, "MostFrom: "+name, all(impl.MostFrom(c.m, c.stock)), all(c.most, 0))
		check(t, "BestMix: "+name, all(impl.BestMix([]impl.Mix{c.m}, c.stock)), all(0, c.most, 0))
	}
	for _, stock := range notStocks() {
		checkCode(t, fmt.Sprint("the stock ", stock), 2, mostCall(impl.Mix{3, 1, 0}, stock), mostCall(impl.Mix{0, 1, 0}, stock))
	}
}

func TestBestMix(t *testing.T) {
	d := dice(112)
	later := 0
	for _, count := range []int{1, 2, 3, 8, 20, 20} {
		for range 5 {
			var list []impl.Mix
			var needed [][]impl.Mix
			for range count {
				list = append(list, someMix(&d, 6))
				needed = append(needed, allNeeded(list[len(list)-1], 5000))
			}
			for range 5 {
				stock := impl.Mix{int16(d.below(40)), int16(d.below(40)), int16(d.below(40))}
				best, most := 0, -1
				for i := range needed {
					if amount, _ := enoughFor(needed[i], stock); amount > most {
						best, most = i, amount
					}
				}
				if best > 0 {
					later++
				}
				check(t, fmt.Sprint("BestMix of ", list, ", ", stock), all(impl.BestMix(list, stock)), all(best, most, 0))
			}
		}
	}
	if later < 50 {
		t.Errorf("only %d mixes were not the first ones", later)
	}
}

func TestBestMixOfSomeKinds(t *testing.T) {
	a, b, c := impl.Mix{3, 1, 0}, impl.Mix{1, 1, 0}, impl.Mix{4, 1, 0}
	stock := impl.Mix{8, 2, 0}
	check(t, "the first of several", all(impl.BestMix([]impl.Mix{a, b, c}, stock)), "[0 10 0]")
	check(t, "the first of several, later", all(impl.BestMix([]impl.Mix{b, c, a, b}, stock)), "[1 10 0]")
	check(t, "the same mix twice", all(impl.BestMix([]impl.Mix{b, b}, stock)), "[0 5 0]")
	check(t, "the last one", all(impl.BestMix([]impl.Mix{b, b, a}, stock)), "[2 10 0]")
	check(t, "nothing of all", all(impl.BestMix([]impl.Mix{a, b, c}, impl.Mix{})), "[0 0 0]")
	check(t, "up to the greatest amount", all(impl.BestMix([]impl.Mix{a, b, c}, impl.Mix{5000, 5000, 0})), "[0 5000 0]")
	twenty := append(slices.Repeat([]impl.Mix{b}, 19), a)
	check(t, "20 mixes", all(impl.BestMix(twenty, stock)), "[19 10 0]")
	checkCode(t, "no mixes", 6, bestMixCall(nil, stock), bestMixCall([]impl.Mix{}, impl.Mix{}))
	checkCode(t, "21 mixes", 3, bestMixCall(append(twenty, a), stock))
	for _, bad := range notStocks() {
		name := fmt.Sprint("the stock ", bad)
		checkCode(t, name, 2, bestMixCall([]impl.Mix{a, b, c}, bad), bestMixCall(twenty, bad), bestMixCall(nil, bad))
		checkCode(t, name+", 21 mixes", 3, bestMixCall(append(twenty, a), bad))
	}
}

func TestBagsFor(t *testing.T) {
	d := dice(113)
	for range 5000 {
		m, amount, bag := someMix(&d, []int{3, 100}[d.below(2)]), d.below([]int{40, 5001}[d.below(2)]), 1+d.below([]int{9, 5000}[d.below(2)])
		needed := neededOf(m, amount)
		var bags []int64
		sum := int64(0)
		for _, part := range needed {
			count := int64(0)
			for full := 0; full < int(part); full += bag {
				count++
			}
			bags, sum = append(bags, count), sum+count
		}
		check(t, fmt.Sprint("BagsFor of ", m, ", ", amount, ", ", bag), all(impl.BagsFor(m, int64(amount), int64(bag))), all(bags, sum, 0))
	}
	m := impl.Mix{3, 1, 0}
	check(t, "the example", all(impl.BagsFor(m, 10, 3)), "[[3 1 0] 4 0]")
	check(t, "nothing", all(impl.BagsFor(m, 0, 3)), "[[0 0 0] 0 0]")
	check(t, "bags of 1", all(impl.BagsFor(m, 5000, 1)), "[[3750 1250 0] 5000 0]")
	check(t, "bags of 5000", all(impl.BagsFor(m, 5000, 5000)), "[[1 1 0] 2 0]")
	check(t, "just full", all(impl.BagsFor(m, 8, 2)), "[[3 1 0] 4 0]")
	check(t, "just more than full", all(impl.BagsFor(m, 8, 5)), "[[2 1 0] 3 0]")
	for _, bag := range append(beyond(5000), 0) {
		checkCode(t, fmt.Sprint("a bag of ", bag), 2, bagsCall(m, 10, bag), bagsCall(m, 0, bag), bagsCall(m, 5001, bag))
	}
}

func TestRowsText(t *testing.T) {
	d := dice(114)
	for range 2000 {
		rows := someWorks(&d, d.below(7), []int{9, 2000}[d.below(2)])
		s := worksText(rows)
		check(t, "RowsText", impl.RowsText(rows), s)
		check(t, fmt.Sprintf("ReadRows of %q", s), all(impl.ReadRows(s)), all(rows, 0))
		if !isWorksText(s) {
			t.Errorf("%q is no text", s)
		}
	}
	check(t, "the greatest numbers", impl.RowsText(works(9, 2000, 0, 1)), "9:2000 0:1")
	check(t, "more than all gangs can", impl.RowsText(works(9, 2000, 9, 2000)), "9:2000 9:2000")
	check(t, "no rows", all(impl.RowsText(nil), impl.RowsText([]impl.Row{})), "[ ]")
	check(t, "no text", all(impl.ReadRows("")), "[[] 0]")
}

func TestReadRowsOfNoText(t *testing.T) {
	for _, s := range []string{
		" ", "\n", ":", "2", "2:", ":25", "2:25 ", " 2:25", "2:25  5:40", "2:25\n", "2:25\n5:40", "2:25\t5:40", "2:25,5:40", "2 :25", "2: 25", "2 25", "2:25 5", "2:25:1", "2::25", "2;25", "2x25", "2:25 5:40 ", "2:25 x", "x:25", "2:x", "x",
		"10:25", "-1:25", "2:0", "2:-1", "2:2001", "2:32767", "2:32768", "2:-32768", "127:1", "128:1", "256:1", "2:65537", "2:4294967297", "18446744073709551617:1", "2:18446744073709551617",
		"02:25", "2:025", "+2:25", "2:+25", "-0:25", "2:-0", "2.0:25", "2:25.0", "2:2e1", "0x2:25", "2:0x19", "2:1_0", "00:25", "2:00", "2:25\x00", "\xff:25", "2:25\u00a05:40", "２:25", "2:２", "2:25\r",
		"0:1 0:1 0:1 0:1 0:1 0:1 0:1", "0:1 0:1 0:1 0:1 0:1 0:0", "0:1 0:1 0:1 0:1 0:1 10:1", "0:1 0:1 0:1 0:1 0:1 0:1 ", "0:1 0:1 0:1 0:1 0:1 0:1 x",
	} {
		check(t, fmt.Sprintf("ReadRows of %q", s), all(impl.ReadRows(s)), "[[] 5]")
		if isWorksText(s) {
			t.Errorf("%q is a text", s)
		}
	}
	check(t, "six rows", all(impl.ReadRows("0:1 1:20 2:300 3:2000 9:1999 0:1")), all(works(0, 1, 1, 20, 2, 300, 3, 2000, 9, 1999, 0, 1), 0))
}

// TestReadRowsOfChangedTexts changes single bytes of texts, takes them away, and
// adds some.
func TestReadRowsOfChangedTexts(t *testing.T) {
	d := dice(115)
	good := 0
	for range 6000 {
		s := changed(&d, worksText(someWorks(&d, 1+d.below(6), []int{9, 2000}[d.below(2)])), "0123456789 :::-+x\n")
		good += checkRead(t, s, isWorksText(s), impl.ReadRows, impl.RowsText)
	}
	if good < 1000 {
		t.Errorf("only %d texts were good", good)
	}
}

// Promise 1: no function modifies its arguments, and all results are equal for
// equal arguments, in memory of their own.
func TestGangsArePure(t *testing.T) {
	d := dice(116)
	rowLists := [][]impl.Row{nil, works(0, 2000, 0, 1)}
	for _, rows := range notWorks() {
		rowLists = append(rowLists, rows)
	}
	for range 40 {
		rowLists = append(rowLists, someWorks(&d, d.below(7), 100))
	}
	for i, rows := range rowLists {
		gangs := someGangs(&d, i%6)
		if i%9 == 8 {
			gangs[0].Pace = 0
		}
		plan := make([]int64, len(rows))
		if found, _, code := impl.FastestPlan(rows, gangs); code == impl.OK {
			plan = found
		}
		rows, gangs, plan := roomy(rows, impl.Row{Need: 7, Work: 7}), roomy(gangs, slowGang()), roomy(plan, 7)
		list := roomy([]impl.Mix{someMix(&d, 9), someMix(&d, 9), {0, 0, int16(i % 4)}}, impl.Mix{7, 7, 7})
		stock := impl.Mix{int16(d.below(90)), int16(d.below(90)), int16(d.below(90) - 1)}
		calls := append(planCalls(rows, gangs, plan, 1000), planCalls(rows, gangs, nil, 5)...)
		calls = append(calls, meetAtCall(rows, slowGang(), quickGang()), daysCall(slowGang(), 99), mayLayCall(quickGang(), impl.Row{Work: 1}), calendarCall(3, 99),
			mixForCall(list[2], 77), mostCall(list[0], stock), bestMixCall(list, stock), bestMixCall(list[:2], stock), bagsCall(list[1], 99, 5),
			liftCall{"ValidGang", func() []any { return all(impl.ValidGang(slowGang())) }, nil},
			liftCall{"ValidRows", func() []any { return all(impl.ValidRows(rows)) }, nil},
			liftCall{"ValidMix", func() []any { return all(impl.ValidMix(list[2])) }, nil},
			liftCall{"RowsText", func() []any { return all(impl.RowsText(rows)) }, nil},
			liftCall{"ReadRows", func() []any { return all(impl.ReadRows(worksText(rows))) }, nil})
		for _, c := range calls {
			checkPure(t, fmt.Sprint(c.name, " of ", i), all(rows, gangs, plan, list), c.call)
		}
	}
}

// Promise 1: functions return for great arguments, too.
func TestGangsOfManyElements(t *testing.T) {
	const many = 1000000
	rows, gangs := works(2, 25, 5, 40), []impl.Gang{slowGang(), quickGang()}
	good, numbers := slices.Repeat(gangs, many/2), make([]int64, many)
	checkCode(t, "many rows", 1, planCalls(make([]impl.Row, many), gangs, numbers, 0)...)
	checkCode(t, "many rows", 1, planCalls(slices.Repeat(works(0, 1), many), gangs, numbers, 0)...)
	checkCode(t, "many rows", 1, meetAtCall(slices.Repeat(works(0, 1), many), gangs[0], gangs[1]))
	check(t, "many rows", all(impl.ValidRows(slices.Repeat(works(0, 1), many)), impl.RowsText(slices.Repeat(works(0, 1), many))), "[false ]")
	checkCode(t, "many gangs", 3, planCalls(rows, good, numbers, 0)...)
	checkCode(t, "many gangs, of which the last one is not valid", 1, planCalls(rows, append(good, impl.Gang{}), numbers, 0)...)
	check(t, "many numbers", all(impl.CheckPlan(rows, gangs, numbers)), "[false 0]")
	checkCode(t, "many numbers", 4, planCalls(rows, gangs, numbers, 0)[1:3]...)
	checkCode(t, "many mixes", 3, bestMixCall(slices.Repeat([]impl.Mix{{1, 1, 1}}, many), impl.Mix{}), bestMixCall(slices.Repeat([]impl.Mix{{1, 1, 1}}, many), impl.Mix{-1}))
	checkCode(t, "many mixes that are not valid", 1, bestMixCall(make([]impl.Mix, many), impl.Mix{}))
	check(t, "great numbers", all(impl.CheckPlan(rows, gangs, []int64{math.MaxInt64, math.MinInt64})), "[false 0]")
	for _, s := range []string{"1", "1 ", " ", "\n", ":", "9:1 ", "-", "\xff", "1:1", "x "} {
		long := strings.Repeat(s, many/len(s))
		check(t, "ReadRows of much", all(impl.ReadRows(long)), "[[] 5]")
		check(t, "ReadRows of much behind", all(impl.ReadRows("0:1 1:2"+long)), "[[] 5]")
	}
}

// checkAreas checks that the cells of a square that are laid and open are all
// cells.
func checkAreas(t *testing.T, name string, q impl.Square, code int64) {
	t.Helper()
	laid, one := impl.LaidArea(q)
	open, two := impl.OpenCells(q)
	if code != impl.OK || one != impl.OK || two != impl.OK || laid+int64(len(open)) != int64(q.Wide)*int64(q.High) {
		t.Errorf("%s: %d cells are laid, and %d open, %d", name, laid, len(open), code)
	}
}

// Promise 18: in squares of all chapters, cells that are laid and open are all
// cells; and no way lifts fewer slabs than told.
func TestAllChaptersKeepAllCells(t *testing.T) {
	d := dice(117)
	relaid := 0
	for i, q := range append(someSquares(), smallSquares()...) {
		name := fmt.Sprint("square ", i)
		checkAreas(t, name, q, impl.OK)
		full, _, code := impl.FillWith(q, int64(1+d.below(3)), int64(1+d.below(3)))
		if code != impl.ErrLimit {
			checkAreas(t, name+", filled", full, code)
		}
		way := someWalk(&d, q, 1+d.below(30))
		told, code := impl.FewestLifted(q, way[0], way[len(way)-1])
		walked, two := impl.LiftedBy(q, way)
		if code != impl.OK || two != impl.OK || len(told) > len(walked) {
			t.Errorf("%s: the way %v lifts %v, but %v are told", name, way, walked, told)
		}
		less, slabs, code := impl.LiftAll(q, told)
		checkAreas(t, name+", lifted", less, code)
		if order, code := impl.LayOrder(less, slabs); code == impl.OK {
			again, code := impl.LayAll(less, slabs, order)
			checkAreas(t, name+", laid again", again, code)
			check(t, name+", laid again", again, q)
			relaid++
		}
	}
	if relaid < 100 {
		t.Errorf("slabs were laid again only %d times", relaid)
	}
	for i, p := range somePlanes() {
		if q, code := impl.LayPattern(p, int64(1+d.below(12)), int64(1+d.below(12)), int64(d.below(9)), int64(d.below(9))); code != impl.ErrLimit {
			checkAreas(t, fmt.Sprint("pattern ", i), q, code)
			check(t, "open cells of a pattern", all(impl.OpenCells(q)), "[[] 0]")
		}
	}
}

// TestExampleOfGangs is the example of the document.
func TestExampleOfGangs(t *testing.T) {
	rows, gangs := works(2, 25, 5, 40), []impl.Gang{slowGang(), quickGang()}
	check(t, "days", all(impl.DaysFor(gangs[0], 25)), "[4 0]")
	check(t, "fastest", all(impl.FastestPlan(rows, gangs)), "[[1 1] 4 0]")
	check(t, "cost of the fastest", all(impl.PlanCost(rows, gangs, []int64{1, 1})), "[80 0]")
	check(t, "cheapest", all(impl.CheapestPlan(rows, gangs, 10)), "[[0 1] 60 0]")
	check(t, "days of the cheapest", all(impl.PlanDays(rows, gangs, []int64{0, 1})), "[7 0]")
	check(t, "calendar", all(impl.CalendarDays(5, 3)), "[4 0]")
	check(t, "mix", all(impl.MixFor(impl.Mix{3, 1, 0}, 10)), "[[8 2 0] 0]")
	check(t, "text", impl.RowsText(rows), "2:25 5:40")
	check(t, "read", all(impl.ReadRows("2:25 5:40")), all(rows, 0))
}
