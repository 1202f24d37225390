package tests

import (
	"fmt"
	"math"
	"math/big"
	"slices"
	"testing"

	"loop.example/g01241/impl"
)

const maxDay = 365000000

func rule(every int, but int, yet int) impl.LeapRule {
	return impl.LeapRule{Every: every, But: but, Yet: yet}
}

// someRules are rules of one, two and three numbers, with numbers as small and as great as they may be.
var someRules = []impl.LeapRule{
	rule(1, 0, 0), rule(2, 0, 0), rule(4, 0, 0), rule(6, 0, 0), rule(9999, 0, 0), rule(10000, 0, 0),
	rule(1, 2, 0), rule(1, 10000, 0), rule(3, 6, 0), rule(4, 100, 0), rule(4, 128, 0), rule(5000, 10000, 0), rule(4999, 9998, 0),
	rule(1, 2, 4), rule(1, 5000, 10000), rule(4, 100, 400), rule(5, 10, 20), rule(7, 21, 63), rule(2500, 5000, 10000), rule(3333, 3333*2, 0),
}

// noRules are values that break the rules for leap rules, each in its own way.
var noRules = []impl.LeapRule{
	{}, rule(0, 100, 400), rule(0, 0, 400), rule(-1, 0, 0), rule(-4, 100, 400), rule(-4, -8, -16), rule(10001, 0, 0), rule(10001, 20002, 0),
	rule(4, 4, 0), rule(4, 2, 0), rule(4, 1, 0), rule(4, 102, 0), rule(4, 99, 0), rule(4, -4, 0), rule(4, -100, 0), rule(1, 1, 0), rule(1, -1, 0),
	rule(1, 10001, 0), rule(4, 10004, 0), rule(5001, 10002, 0), rule(10000, 10000, 0), rule(10000, 20000, 0),
	rule(4, 0, 400), rule(4, 0, 8), rule(1, 0, 1), rule(4, 0, -8), rule(10001, 0, 400),
	rule(4, 100, 100), rule(4, 100, 50), rule(4, 100, 4), rule(4, 100, 250), rule(4, 100, 404), rule(4, 100, -400), rule(4, 100, -100),
	rule(4, 100, 10100), rule(2501, 5002, 10004), rule(1, 2, 10002), rule(5000, 10000, 10000), rule(5000, 10000, 20000), rule(4, 102, 408), rule(4, 4, 8),
	rule(math.MinInt, 0, 0), rule(math.MaxInt, 0, 0), rule(1, math.MinInt, 0), rule(1, math.MaxInt, 0), rule(1, 2, math.MinInt), rule(1, 2, math.MaxInt-1),
	rule(math.MinInt, math.MinInt, math.MinInt), rule(-1, math.MinInt, 0), rule(1, -1, math.MinInt), rule(math.MaxInt, math.MaxInt, math.MaxInt),
}

// noYears are numbers that no year has.
var noYears = []int{math.MinInt, -400, -1, 0, 1000001, 1000004, math.MaxInt}

// someParts are fractions, of which a part is not in lowest terms.
var someParts = [][2]int{
	{2422, 10000}, {1211, 5000}, {1, 2}, {1, 4}, {25000, 100000}, {97, 400}, {24250, 100000}, {24219, 100000}, {31, 128}, {1, 100000}, {99999, 100000},
	{99998, 100000}, {1, 99991}, {99990, 99991}, {2, 3}, {3, 4}, {1, 3}, {1, 10000}, {1, 9999}, {9999, 10000}, {1, 20000}, {61803, 100000}, {46368, 75025},
}

// noParts are numbers that make no fraction, each in its own way.
var noParts = [][2]int{
	{0, 1}, {0, 2}, {0, 100000}, {1, 1}, {4, 4}, {100000, 100000}, {5, 4}, {-1, 4}, {1, -4}, {-1, -4}, {-4, -1}, {1, 0}, {0, 0}, {-1, 0}, {1, 100001}, {2422, 1000000},
	{math.MinInt, 4}, {1, math.MinInt}, {math.MinInt, math.MinInt}, {math.MaxInt, 4}, {1, math.MaxInt}, {math.MaxInt, math.MaxInt}, {math.MinInt, math.MaxInt},
}

// calendar tells of each year up to MaxYear, and of 0, whether it is a leap year, and how many days and leap years there are up to its end.
type calendar struct {
	leap  []bool
	leaps []int
	days  []int
}

// calendarOf goes through the multiples of each number of a rule, and then from year to year.
func calendarOf(r impl.LeapRule) calendar {
	c := calendar{make([]bool, impl.MaxYear+1), make([]int, impl.MaxYear+1), make([]int, impl.MaxYear+1)}
	for i, number := range []int{r.Every, r.But, r.Yet} {
		for year := number; number > 0 && year <= impl.MaxYear; year += number {
			c.leap[year] = i != 1
		}
	}
	for year := 1; year <= impl.MaxYear; year++ {
		c.leaps[year], c.days[year] = c.leaps[year-1], c.days[year-1]+365
		if c.leap[year] {
			c.leaps[year]++
			c.days[year]++
		}
	}
	return c
}

// lastOf returns the last number of a rule that is not 0.
func lastOf(r impl.LeapRule) int {
	cycle := r.Every
	for _, number := range []int{r.But, r.Yet} {
		if number != 0 {
			cycle = number
		}
	}
	return cycle
}

// yearsToTry are the first and the last years, those around the first multiples of the numbers of a rule, and some others.
func yearsToTry(r impl.LeapRule) []int {
	var years []int
	for year := 1; year <= 450; year++ {
		years = append(years, year, impl.MaxYear+1-year)
	}
	for year := 451; year < impl.MaxYear; year += 1999 {
		years = append(years, year)
	}
	for _, number := range []int{r.Every, r.But, r.Yet} {
		for k := range 10 {
			years = append(years, k*number-1, k*number, k*number+1)
		}
	}
	years = slices.DeleteFunc(years, func(year int) bool { return year < 1 || year > impl.MaxYear })
	slices.Sort(years)
	return slices.Compact(years)
}

func ratOfPart(part [2]int) *big.Rat {
	return big.NewRat(int64(part[0]), int64(part[1]))
}

// off returns by how much the mean year of a rule is longer than the true one.
func off(c calendar, r impl.LeapRule, part [2]int) *big.Rat {
	mean := big.NewRat(int64(c.leaps[lastOf(r)]), int64(lastOf(r)))
	return mean.Sub(mean, ratOfPart(part))
}

func TestConstantsOfDays(t *testing.T) {
	if impl.MaxYear != 1000000 || impl.MaxEvery != 10000 {
		t.Error("constants", impl.MaxYear, impl.MaxEvery)
	}
}

func TestTellOther(t *testing.T) {
	everyDial(func(from int) {
		everyDial(func(to int) {
			for _, x := range someTurns() {
				text, ok := impl.TellOther(from, to, x)
				wantResult(t, fmt.Sprintf("TellOther %v of %d hours on %d", x, from, to), text, ok, wantText(to, ratOf(x)), true)
			}
		})
	})
	for _, c := range []struct {
		from, to int
		time     impl.Turn
		want     string
	}{
		{12, 10, turn(1, 8), "01:15:00"},
		{12, 10, turn(1, 11), "00:54:32+8/11"},
		{12, 12, turn(1, 8), "01:30:00"},
		{24, 12, turn(1, 2), "06:00:00"},
		{12, 24, turn(1, 2), "12:00:00"},
		{2, 24, turn(0, 1), "00:00:00"},
		{24, 2, turn(999999, 1000000), "01:59:59+1241/1250"},
	} {
		text, ok := impl.TellOther(c.from, c.to, c.time)
		wantResult(t, fmt.Sprintf("TellOther %v of %d hours on %d", c.time, c.from, c.to), text, ok, c.want, true)
	}
}

func TestTellOtherOfNoDialsAndNoTimes(t *testing.T) {
	for _, h := range noDials {
		text, ok := impl.TellOther(h, 12, turn(1, 8))
		wantFailure(t, fmt.Sprintf("TellOther of %d hours", h), text, ok)
		text, ok = impl.TellOther(12, h, turn(1, 8))
		wantFailure(t, fmt.Sprintf("TellOther on %d hours", h), text, ok)
		text, ok = impl.TellOther(h, h, turn(0, 1))
		wantFailure(t, fmt.Sprintf("TellOther of and on %d hours", h), text, ok)
	}
	for _, bad := range noTurns {
		text, ok := impl.TellOther(12, 10, bad)
		wantFailure(t, fmt.Sprint("TellOther ", bad), text, ok)
	}
}

// sameLook is an independent SameLook, as no two dials differ by more than 30 hours.
func sameLook(a int, b int) []impl.Turn {
	var rats []*big.Rat
	for _, x := range smallTurns(30) {
		if longAt(a, ratOf(x)).Cmp(longAt(b, ratOf(x))) == 0 {
			rats = append(rats, ratOf(x))
		}
	}
	list, _ := listOfRats(rats)
	return list
}

func TestSameLook(t *testing.T) {
	everyDial(func(a int) {
		everyDial(func(b int) {
			times, ok := impl.SameLook(a, b)
			what := fmt.Sprintf("SameLook of %d and %d hours", a, b)
			if a == b {
				wantList(t, what, times, ok, nil, false)
				return
			}
			wantList(t, what, times, ok, sameLook(a, b), true)
		})
	})
	for _, c := range []struct {
		a, b int
		want []impl.Turn
	}{
		{12, 10, []impl.Turn{turn(0, 1), turn(1, 2)}},
		{10, 12, []impl.Turn{turn(0, 1), turn(1, 2)}},
		{2, 3, []impl.Turn{turn(0, 1)}},
		{24, 20, []impl.Turn{turn(0, 1), turn(1, 4), turn(1, 2), turn(3, 4)}},
	} {
		times, ok := impl.SameLook(c.a, c.b)
		wantList(t, fmt.Sprintf("SameLook of %d and %d hours", c.a, c.b), times, ok, c.want, true)
	}
	for _, h := range noDials {
		for _, c := range [][2]int{{h, 12}, {12, h}, {h, h}, {h, 2}, {24, h}} {
			times, ok := impl.SameLook(c[0], c[1])
			wantList(t, fmt.Sprintf("SameLook of %d and %d hours", c[0], c[1]), times, ok, nil, false)
		}
	}
}

func TestIsLeapRule(t *testing.T) {
	for _, r := range someRules {
		if !impl.IsLeapRule(r) {
			t.Errorf("%v is a leap rule", r)
		}
	}
	for _, r := range noRules {
		if impl.IsLeapRule(r) {
			t.Errorf("%v is no leap rule", r)
		}
	}
	for every := 1; every <= 10000; every++ {
		if !impl.IsLeapRule(rule(every, 0, 0)) || impl.IsLeapRule(rule(every, 2*every, 0)) != (every <= 5000) || impl.IsLeapRule(rule(every, 2*every, 4*every)) != (every <= 2500) {
			t.Errorf("IsLeapRule of Every %d", every)
		}
	}
}

// TestSmallLeapRules finds the greater multiples of small numbers by adding.
func TestSmallLeapRules(t *testing.T) {
	const most = 24
	valid := map[impl.LeapRule]bool{}
	for every := 1; every <= most; every++ {
		valid[rule(every, 0, 0)] = true
		for but := every + every; but <= most; but += every {
			valid[rule(every, but, 0)] = true
			for yet := but + but; yet <= most; yet += but {
				valid[rule(every, but, yet)] = true
			}
		}
	}
	for every := -3; every <= most; every++ {
		for but := -6; but <= most; but++ {
			for yet := -6; yet <= most; yet++ {
				if r := rule(every, but, yet); impl.IsLeapRule(r) != valid[r] {
					t.Errorf("IsLeapRule of %v is not %v", r, valid[r])
				}
			}
		}
	}
}

func TestYears(t *testing.T) {
	for _, r := range someRules {
		c := calendarOf(r)
		for _, year := range yearsToTry(r) {
			what := fmt.Sprintf(" %d by %v", year, r)
			leap, ok := impl.IsLeapYear(r, year)
			wantResult(t, "IsLeapYear"+what, leap, ok, c.leap[year], true)
			days, ok := impl.DaysUpTo(r, year)
			wantResult(t, "DaysUpTo"+what, days, ok, c.days[year-1], true)
			weekday, ok := impl.WeekdayOf(r, year)
			wantResult(t, "WeekdayOf"+what, weekday, ok, c.days[year-1]%7, true)
			next := slices.Index(c.leap[year+1:], true) + 1
			wantNext := year + next
			if next == 0 {
				wantNext = 0
			}
			found, ok := impl.NextLeap(r, year)
			wantResult(t, "NextLeap"+what, found, ok, wantNext, next > 0)
		}
	}
}

func TestYearsInTable(t *testing.T) {
	for _, c := range []struct {
		rule     impl.LeapRule
		year     int
		leap     bool
		days     int
		weekday  int
		next     int
		wantNext bool
	}{
		{rule(4, 100, 400), 1, false, 0, 0, 4, true},
		{rule(4, 100, 400), 4, true, 1095, 3, 8, true},
		{rule(4, 100, 400), 96, true, 34698, 6, 104, true},
		{rule(4, 100, 400), 100, false, 36159, 4, 104, true},
		{rule(4, 100, 400), 396, true, 144270, 0, 400, true},
		{rule(4, 100, 400), 400, true, 145731, 5, 404, true},
		{rule(4, 100, 400), 401, false, 146097, 0, 404, true},
		{rule(4, 100, 400), 1900, false, 693595, 0, 1904, true},
		{rule(4, 100, 400), 2000, true, 730119, 5, 2004, true},
		{rule(4, 100, 0), 400, false, 145731, 5, 404, true},
		{rule(4, 0, 0), 100, true, 36159, 4, 104, true},
		{rule(1, 0, 0), 1, true, 0, 0, 2, true},
		{rule(1, 0, 0), 999999, true, 365999268, 5, 1000000, true},
		{rule(1, 0, 0), 1000000, true, 365999634, 0, 0, false},
		{rule(4, 100, 400), 999996, true, 365240673, 0, 1000000, true},
		{rule(4, 100, 0), 999996, true, 365238174, 0, 0, false},
		{rule(9999, 0, 0), 999899, false, 364962869, 5, 999900, true},
		{rule(9999, 0, 0), 999900, true, 364963234, 6, 0, false},
		{rule(10000, 0, 0), 1000000, true, 364999734, 1, 0, false},
		{rule(5000, 10000, 0), 995000, true, 363174734, 6, 0, false},
	} {
		what := fmt.Sprintf(" %d by %v", c.year, c.rule)
		leap, ok := impl.IsLeapYear(c.rule, c.year)
		wantResult(t, "IsLeapYear"+what, leap, ok, c.leap, true)
		days, ok := impl.DaysUpTo(c.rule, c.year)
		wantResult(t, "DaysUpTo"+what, days, ok, c.days, true)
		weekday, ok := impl.WeekdayOf(c.rule, c.year)
		wantResult(t, "WeekdayOf"+what, weekday, ok, c.weekday, true)
		next, ok := impl.NextLeap(c.rule, c.year)
		wantResult(t, "NextLeap"+what, next, ok, c.next, c.wantNext)
	}
}

func TestCountLeaps(t *testing.T) {
	years := []int{1, 2, 3, 4, 5, 99, 100, 101, 399, 400, 401, 9998, 9999, 10000, 10001, 500000, 999899, 999900, 999901, 999999, 1000000}
	for _, r := range someRules {
		c := calendarOf(r)
		for _, from := range years {
			for _, to := range years {
				want := 0
				if to >= from {
					want = c.leaps[to] - c.leaps[from-1]
				}
				n, ok := impl.CountLeaps(r, from, to)
				wantResult(t, fmt.Sprintf("CountLeaps %d to %d by %v", from, to, r), n, ok, want, true)
			}
		}
	}
	for _, c := range []struct{ from, to, want int }{
		{1, 400, 97}, {1, 1000000, 242500}, {1, 3, 0}, {4, 4, 1}, {5, 7, 0}, {5, 4, 0}, {1000000, 1, 0}, {1000000, 1000000, 1}, {1901, 2000, 25}, {96, 104, 2}, {400, 399, 0},
	} {
		n, ok := impl.CountLeaps(rule(4, 100, 400), c.from, c.to)
		wantResult(t, fmt.Sprintf("CountLeaps %d to %d", c.from, c.to), n, ok, c.want, true)
	}
}

// TestLeapYearsAreThoseCounted counts by IsLeapYear and goes on by NextLeap.
func TestLeapYearsAreThoseCounted(t *testing.T) {
	for _, r := range someRules {
		cycle, leaps, _ := impl.LeapsOfCycle(r)
		count := 0
		for year := 1; year <= 3*cycle; year++ {
			if leap, _ := impl.IsLeapYear(r, year); leap {
				count++
			}
			if year%cycle == 0 && count != year/cycle*leaps {
				t.Errorf("%v has %d leap years up to %d, and not %d in each cycle", r, count, year, leaps)
			}
		}
		passed := 0
		for year, ok := impl.NextLeap(r, 3*cycle); ok; year, ok = impl.NextLeap(r, year) {
			passed++
		}
		n, ok := impl.CountLeaps(r, 3*cycle+1, impl.MaxYear)
		wantResult(t, fmt.Sprint("CountLeaps behind three cycles by ", r), n, ok, passed, true)
	}
}

func TestLeapsOfCycleAndWeekCycle(t *testing.T) {
	for _, r := range someRules {
		c, cycle := calendarOf(r), lastOf(r)
		got, leaps, ok := impl.LeapsOfCycle(r)
		wantTwo(t, fmt.Sprint("LeapsOfCycle of ", r), got, leaps, ok, cycle, c.leaps[cycle], true)
		years := cycle
		for c.days[years]%7 != 0 {
			years += cycle
		}
		week, ok := impl.WeekCycle(r)
		wantResult(t, fmt.Sprint("WeekCycle of ", r), week, ok, years, true)
	}
	for _, c := range []struct {
		rule               impl.LeapRule
		cycle, leaps, week int
	}{
		{rule(4, 100, 400), 400, 97, 400},
		{rule(4, 100, 0), 100, 24, 700},
		{rule(4, 0, 0), 4, 1, 28},
		{rule(4, 128, 0), 128, 31, 896},
		{rule(1, 0, 0), 1, 1, 7},
		{rule(6, 0, 0), 6, 1, 6},
		{rule(1, 2, 0), 2, 1, 14},
		{rule(1, 2, 4), 4, 3, 4},
		{rule(10000, 0, 0), 10000, 1, 70000},
		{rule(9999, 0, 0), 9999, 1, 69993},
		{rule(5000, 10000, 0), 10000, 1, 70000},
		{rule(1, 5000, 10000), 10000, 9999, 10000},
	} {
		cycle, leaps, ok := impl.LeapsOfCycle(c.rule)
		wantTwo(t, fmt.Sprint("LeapsOfCycle of ", c.rule), cycle, leaps, ok, c.cycle, c.leaps, true)
		week, ok := impl.WeekCycle(c.rule)
		wantResult(t, fmt.Sprint("WeekCycle of ", c.rule), week, ok, c.week, true)
	}
}

func TestYearOfDay(t *testing.T) {
	for _, r := range someRules {
		c := calendarOf(r)
		for _, year := range yearsToTry(r) {
			first, last := c.days[year-1], c.days[year]-1
			for _, day := range []int{first, first + 1, (first + last) / 2, last - 1, last} {
				if day > maxDay {
					continue
				}
				got, behind, ok := impl.YearOfDay(r, day)
				wantTwo(t, fmt.Sprintf("YearOfDay %d by %v", day, r), got, behind, ok, year, day-first, true)
			}
		}
		last, _ := slices.BinarySearch(c.days, maxDay+1)
		year, day, ok := impl.YearOfDay(r, maxDay)
		wantTwo(t, fmt.Sprint("YearOfDay of the greatest day by ", r), year, day, ok, last, maxDay-c.days[last-1], true)
	}
}

func TestYearOfDayInTable(t *testing.T) {
	for _, c := range []struct {
		rule           impl.LeapRule
		day, year, rem int
	}{
		{rule(4, 100, 400), 0, 1, 0},
		{rule(4, 100, 400), 364, 1, 364},
		{rule(4, 100, 400), 365, 2, 0},
		{rule(4, 100, 400), 1460, 4, 365},
		{rule(4, 100, 400), 1461, 5, 0},
		{rule(4, 100, 400), 146096, 400, 365},
		{rule(4, 100, 400), 146097, 401, 0},
		{rule(4, 100, 400), maxDay, 999337, 21},
		{rule(1, 0, 0), 365, 1, 365},
		{rule(1, 0, 0), 366, 2, 0},
		{rule(1, 0, 0), maxDay, 997268, 278},
		{rule(10000, 0, 0), maxDay, 1000000, 266},
		{rule(10000, 0, 0), 364999734, 1000000, 0},
		{rule(10000, 0, 0), 364999733, 999999, 364},
	} {
		year, day, ok := impl.YearOfDay(c.rule, c.day)
		wantTwo(t, fmt.Sprintf("YearOfDay %d by %v", c.day, c.rule), year, day, ok, c.year, c.rem, true)
	}
	for _, day := range []int{math.MinInt, -365, -1, maxDay + 1, 365242500, math.MaxInt} {
		for _, r := range someRules {
			year, rest, ok := impl.YearOfDay(r, day)
			wantTwo(t, fmt.Sprintf("YearOfDay %d by %v", day, r), year, rest, ok, 0, 0, false)
		}
	}
}

func TestOffBy(t *testing.T) {
	for _, r := range someRules {
		c := calendarOf(r)
		for _, part := range someParts {
			num, den, ok := impl.OffBy(r, part[0], part[1])
			wantFraction(t, fmt.Sprintf("OffBy of %v and %v", r, part), num, den, ok, off(c, r, part))
		}
	}
	for _, c := range []struct {
		rule        impl.LeapRule
		num, den    int
		more, parts int
		years       int
		isEverOff   bool
	}{
		{rule(4, 100, 400), 2422, 10000, 3, 10000, 3334, true},
		{rule(4, 100, 400), 1211, 5000, 3, 10000, 3334, true},
		{rule(4, 100, 400), 97, 400, 0, 1, 0, false},
		{rule(4, 100, 400), 24250, 100000, 0, 1, 0, false},
		{rule(4, 0, 0), 1, 4, 0, 1, 0, false},
		{rule(4, 0, 0), 2422, 10000, 39, 5000, 129, true},
		{rule(4, 100, 0), 2422, 10000, -11, 5000, 455, true},
		{rule(4, 128, 0), 24219, 100000, -1, 400000, 400000, true},
		{rule(1, 0, 0), 1, 2, 1, 2, 2, true},
		{rule(1, 0, 0), 1, 100000, 99999, 100000, 2, true},
		{rule(1, 0, 0), 99999, 100000, 1, 100000, 100000, true},
		{rule(2, 0, 0), 3, 4, -1, 4, 4, true},
		{rule(2, 0, 0), 2, 4, 0, 1, 0, false},
		{rule(10000, 0, 0), 1, 10000, 0, 1, 0, false},
		{rule(10000, 0, 0), 99999, 100000, -99989, 100000, 2, true},
		{rule(9999, 0, 0), 10, 99989, -1, 999790011, 999790011, true},
		{rule(9999, 0, 0), 10, 99991, 1, 999810009, 999810009, true},
	} {
		what := fmt.Sprintf(" of %v and %d / %d", c.rule, c.num, c.den)
		a, b, ok := impl.OffBy(c.rule, c.num, c.den)
		wantTwo(t, "OffBy"+what, a, b, ok, c.more, c.parts, true)
		years, ok := impl.YearsForDay(c.rule, c.num, c.den)
		wantResult(t, "YearsForDay"+what, years, ok, c.years, c.isEverOff)
	}
}

// TestYearsForDay checks that the years told are off by a day, and that one year less is not.
func TestYearsForDay(t *testing.T) {
	day := big.NewRat(1, 1)
	for _, r := range someRules {
		c := calendarOf(r)
		for _, part := range someParts {
			what := fmt.Sprintf("YearsForDay of %v and %v", r, part)
			each := off(c, r, part)
			each.Abs(each)
			years, ok := impl.YearsForDay(r, part[0], part[1])
			if each.Sign() == 0 {
				wantFailure(t, what, years, ok)
				continue
			}
			if !ok || timesRat(each, years).Cmp(day) < 0 || timesRat(each, years-1).Cmp(day) >= 0 {
				t.Errorf("%s: got %d, %v", what, years, ok)
			}
		}
	}
}

// bestRules is an independent BestRules: each convergent is told from all whole parts up to it, the last one first.
func bestRules(part [2]int, most int) [][2]int {
	var list [][2]int
	var wholes []int
	for rest := ratOfPart(part); ; rest.Inv(rest) {
		wholes = append(wholes, floorOf(rest))
		value := new(big.Rat)
		for i, whole := range slices.Backward(wholes) {
			if i < len(wholes)-1 {
				value.Inv(value)
			}
			value.Add(value, big.NewRat(int64(whole), 1))
		}
		if value.Denom().Int64() > int64(most) {
			return list
		}
		list = append(list, [2]int{int(value.Num().Int64()), int(value.Denom().Int64())})
		rest = partOf(rest)
		if rest.Sign() == 0 {
			return list
		}
	}
}

func wantRules(t *testing.T, part [2]int, most int, want [][2]int) {
	t.Helper()
	what := fmt.Sprintf("BestRules of %v up to %d", part, most)
	rules, ok := impl.BestRules(part[0], part[1], most)
	var got [][2]int
	for _, r := range rules {
		if len(r) != 2 {
			t.Errorf("%s: got %v", what, rules)
			return
		}
		got = append(got, [2]int(r))
	}
	wantList(t, what, got, ok, want, len(want) > 0)
}

func TestBestRules(t *testing.T) {
	for _, most := range []int{1, 2, 3, 4, 28, 29, 32, 33, 127, 128, 200, 4999, 5000, 9999, 99999, 100000} {
		for _, part := range someParts {
			wantRules(t, part, most, bestRules(part, most))
		}
	}
	for den := 2; den <= 60; den++ {
		for num := 1; num < den; num++ {
			for _, most := range []int{1, 7, den - 1, den, 100000} {
				wantRules(t, [2]int{num, den}, most, bestRules([2]int{num, den}, most))
			}
		}
	}
}

func TestBestRulesInTable(t *testing.T) {
	for _, c := range []struct {
		part [2]int
		most int
		want [][2]int
	}{
		{[2]int{2422, 10000}, 200, [][2]int{{0, 1}, {1, 4}, {7, 29}, {8, 33}, {31, 128}}},
		{[2]int{2422, 10000}, 128, [][2]int{{0, 1}, {1, 4}, {7, 29}, {8, 33}, {31, 128}}},
		{[2]int{2422, 10000}, 127, [][2]int{{0, 1}, {1, 4}, {7, 29}, {8, 33}}},
		{[2]int{2422, 10000}, 40, [][2]int{{0, 1}, {1, 4}, {7, 29}, {8, 33}}},
		{[2]int{2422, 10000}, 3, [][2]int{{0, 1}}},
		{[2]int{2422, 10000}, 1, [][2]int{{0, 1}}},
		{[2]int{1, 4}, 100000, [][2]int{{0, 1}, {1, 4}}},
		{[2]int{25, 100}, 4, [][2]int{{0, 1}, {1, 4}}},
		{[2]int{1, 2}, 1, [][2]int{{0, 1}}},
		{[2]int{2, 3}, 1, [][2]int{{0, 1}, {1, 1}}},
		{[2]int{2, 3}, 2, [][2]int{{0, 1}, {1, 1}}},
		{[2]int{2, 3}, 3, [][2]int{{0, 1}, {1, 1}, {2, 3}}},
		{[2]int{1, 100000}, 99999, [][2]int{{0, 1}}},
		{[2]int{1, 100000}, 100000, [][2]int{{0, 1}, {1, 100000}}},
		{[2]int{99999, 100000}, 99999, [][2]int{{0, 1}, {1, 1}}},
		{[2]int{99999, 100000}, 100000, [][2]int{{0, 1}, {1, 1}, {99999, 100000}}},
		{[2]int{5, 8}, 8, [][2]int{{0, 1}, {1, 1}, {1, 2}, {2, 3}, {5, 8}}},
	} {
		wantRules(t, c.part, c.most, c.want)
	}
}

func TestNoFractions(t *testing.T) {
	for _, part := range noParts {
		what := fmt.Sprint(" of ", part)
		num, den, ok := impl.OffBy(rule(4, 100, 400), part[0], part[1])
		wantTwo(t, "OffBy"+what, num, den, ok, 0, 0, false)
		years, ok := impl.YearsForDay(rule(4, 100, 400), part[0], part[1])
		wantFailure(t, "YearsForDay"+what, years, ok)
		wantRules(t, part, 100, nil)
		wantRules(t, part, 100000, nil)
	}
	for _, most := range []int{math.MinInt, -1, 0, 100001, math.MaxInt} {
		wantRules(t, [2]int{2422, 10000}, most, nil)
		wantRules(t, [2]int{1, 2}, most, nil)
	}
}

// wholeOf returns how many whole ones k times num / den has.
func wholeOf(k int, num int, den int) int {
	return floorOf(timesRat(big.NewRat(int64(num), int64(den)), k))
}

func TestMonthsOf(t *testing.T) {
	for _, c := range [][2]int{
		{59, 2}, {1, 1}, {7, 7}, {30, 1}, {295306, 10000}, {738265, 25000}, {1000000, 1}, {1000000, 1000000}, {1000000, 999999}, {999999, 999998}, {999999, 1000}, {365, 12}, {18262, 600}, {3, 2},
	} {
		for _, months := range []int{1, 2, 12, 13, 399, 400} {
			var want []int
			for k := 1; k <= months; k++ {
				want = append(want, wholeOf(k, c[0], c[1])-wholeOf(k-1, c[0], c[1]))
			}
			days, ok := impl.MonthsOf(c[0], c[1], months)
			wantList(t, fmt.Sprintf("MonthsOf %v, %d of them", c, months), days, ok, want, true)
			wantResult(t, fmt.Sprintf("the sum of MonthsOf %v, %d of them", c, months), sumOf(days), ok, wholeOf(months, c[0], c[1]), true)
		}
	}
	for _, c := range []struct {
		num, den, months int
		want             []int
	}{
		{59, 2, 4, []int{29, 30, 29, 30}},
		{59, 2, 1, []int{29}},
		{30, 1, 2, []int{30, 30}},
		{1, 1, 3, []int{1, 1, 1}},
		{5, 3, 4, []int{1, 2, 2, 1}},
		{1000000, 1, 1, []int{1000000}},
	} {
		days, ok := impl.MonthsOf(c.num, c.den, c.months)
		wantList(t, fmt.Sprintf("MonthsOf %d / %d, %d of them", c.num, c.den, c.months), days, ok, c.want, true)
	}
	for _, c := range [][3]int{
		{1, 2, 4}, {999999, 1000000, 4}, {0, 1, 4}, {0, 0, 4}, {1, 0, 4}, {-59, -2, 4}, {-59, 2, 4}, {59, -2, 4}, {1000001, 1, 4}, {1000001, 1000001, 4}, {1000001, 1000000, 4},
		{59, 2, 0}, {59, 2, -1}, {59, 2, 401}, {59, 2, math.MinInt}, {59, 2, math.MaxInt}, {math.MinInt, math.MinInt, 4}, {math.MaxInt, math.MaxInt, 4},
		{math.MaxInt, 1, 4}, {59, math.MinInt, 4}, {59, math.MaxInt, 4}, {math.MinInt, 1, 4},
	} {
		days, ok := impl.MonthsOf(c[0], c[1], c[2])
		wantList(t, fmt.Sprint("MonthsOf ", c), days, ok, nil, false)
	}
}

// spreadLeaps is an independent SpreadLeaps: a year is a leap year if there are too few up to its end without it.
func spreadLeaps(leaps int, years int) []bool {
	var list []bool
	count := 0
	for k := 1; k <= years; k++ {
		isLeap := count < wholeOf(k, leaps, years)
		if isLeap {
			count++
		}
		list = append(list, isLeap)
	}
	return list
}

func checkSpread(t *testing.T, leaps int, years int) {
	t.Helper()
	what := fmt.Sprintf("SpreadLeaps %d of %d", leaps, years)
	spread, ok := impl.SpreadLeaps(leaps, years)
	wantList(t, what, spread, ok, spreadLeaps(leaps, years), true)
	count := 0
	for k, isLeap := range spread {
		if isLeap {
			count++
		}
		wantResult(t, fmt.Sprintf("%s: leap years of the first %d", what, k+1), count, ok, (k+1)*leaps/years, true)
	}
}

func TestSpreadLeaps(t *testing.T) {
	for years := 1; years <= 33; years++ {
		for leaps := range years + 1 {
			checkSpread(t, leaps, years)
		}
	}
	for _, c := range [][2]int{{31, 128}, {97, 400}, {0, 1000}, {1, 1000}, {500, 1000}, {242, 1000}, {999, 1000}, {1000, 1000}, {1, 999}, {999, 999}} {
		checkSpread(t, c[0], c[1])
	}
	for _, c := range []struct {
		leaps, years int
		want         []bool
	}{
		{1, 4, []bool{false, false, false, true}},
		{2, 5, []bool{false, false, true, false, true}},
		{0, 3, []bool{false, false, false}},
		{3, 3, []bool{true, true, true}},
		{3, 4, []bool{false, true, true, true}},
		{0, 1, []bool{false}},
		{1, 1, []bool{true}},
	} {
		spread, ok := impl.SpreadLeaps(c.leaps, c.years)
		wantList(t, fmt.Sprintf("SpreadLeaps %d of %d", c.leaps, c.years), spread, ok, c.want, true)
	}
	for _, c := range [][2]int{
		{-1, 4}, {5, 4}, {2, 1}, {0, 0}, {1, 0}, {0, -1}, {-1, -1}, {0, 1001}, {1, 1001}, {1001, 1001}, {1001, 1000}, {math.MinInt, 4}, {math.MaxInt, 4},
		{0, math.MinInt}, {1, math.MaxInt}, {math.MinInt, math.MinInt}, {math.MaxInt, math.MaxInt},
	} {
		spread, ok := impl.SpreadLeaps(c[0], c[1])
		wantList(t, fmt.Sprint("SpreadLeaps ", c), spread, ok, nil, false)
	}
}

func checkNoYear(t *testing.T, r impl.LeapRule, year int) {
	t.Helper()
	what := fmt.Sprintf(" %d by %v", year, r)
	leap, ok := impl.IsLeapYear(r, year)
	wantFailure(t, "IsLeapYear"+what, leap, ok)
	days, ok := impl.DaysUpTo(r, year)
	wantFailure(t, "DaysUpTo"+what, days, ok)
	weekday, ok := impl.WeekdayOf(r, year)
	wantFailure(t, "WeekdayOf"+what, weekday, ok)
	next, ok := impl.NextLeap(r, year)
	wantFailure(t, "NextLeap"+what, next, ok)
	for _, other := range []int{1, 400, 1000000, year} {
		n, ok := impl.CountLeaps(r, year, other)
		wantFailure(t, "CountLeaps from"+what, n, ok)
		n, ok = impl.CountLeaps(r, other, year)
		wantFailure(t, "CountLeaps to"+what, n, ok)
	}
}

func TestNoYearsAndNoRules(t *testing.T) {
	for _, year := range noYears {
		for _, r := range someRules {
			checkNoYear(t, r, year)
		}
	}
	for _, r := range noRules {
		for _, year := range []int{1, 4, 400, 1000000, 0} {
			checkNoYear(t, r, year)
		}
		what := fmt.Sprint(" of ", r)
		cycle, leaps, ok := impl.LeapsOfCycle(r)
		wantTwo(t, "LeapsOfCycle"+what, cycle, leaps, ok, 0, 0, false)
		week, ok := impl.WeekCycle(r)
		wantFailure(t, "WeekCycle"+what, week, ok)
		for _, day := range []int{0, 1000, maxDay} {
			year, rest, ok := impl.YearOfDay(r, day)
			wantTwo(t, "YearOfDay"+what, year, rest, ok, 0, 0, false)
		}
		num, den, ok := impl.OffBy(r, 2422, 10000)
		wantTwo(t, "OffBy"+what, num, den, ok, 0, 0, false)
		years, ok := impl.YearsForDay(r, 2422, 10000)
		wantFailure(t, "YearsForDay"+what, years, ok)
	}
}

func TestExampleOfDays(t *testing.T) {
	r := rule(4, 100, 400)
	cycle, leaps, ok := impl.LeapsOfCycle(r)
	wantTwo(t, "LeapsOfCycle", cycle, leaps, ok, 400, 97, true)
	week, ok := impl.WeekCycle(r)
	wantResult(t, "WeekCycle", week, ok, 400, true)
	num, den, ok := impl.OffBy(r, 2422, 10000)
	wantTwo(t, "OffBy", num, den, ok, 3, 10000, true)
	years, ok := impl.YearsForDay(r, 2422, 10000)
	wantResult(t, "YearsForDay", years, ok, 3334, true)
	wantRules(t, [2]int{2422, 10000}, 200, [][2]int{{0, 1}, {1, 4}, {7, 29}, {8, 33}, {31, 128}})
	months, ok := impl.MonthsOf(59, 2, 4)
	wantList(t, "MonthsOf", months, ok, []int{29, 30, 29, 30}, true)
	text, ok := impl.TellOther(12, 10, turn(1, 8))
	wantResult(t, "TellOther", text, ok, "01:15:00", true)
}
