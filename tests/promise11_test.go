package tests

import (
	"math"
	"reflect"
	"runtime"
	"slices"
	"strings"
	"testing"

	"loop.example/g01241/impl"
)

// anyFunctions are the functions that have landed: each is called with all combinations of anyValues.
var anyFunctions = []any{
	impl.IsTurn, impl.MakeTurn, impl.AddTurns, impl.LessTurn, impl.TimesTurn, impl.PartOfTurn, impl.CompareTurns, impl.MirrorTurn,
	impl.LongHand, impl.AngleOf, impl.SmallAngle, impl.HourOf, impl.MinuteOf, impl.SecondOf, impl.TimeOf, impl.TimesWithLong,
	impl.TimeText, impl.ParseTime,
	impl.IsHand, impl.HandAt, impl.AheadAt, impl.RelativeHand, impl.CountMeets, impl.MeetTimes, impl.AheadTimes, impl.OppositeTimes,
	impl.FirstMeet, impl.NextMeet, impl.MeetPlaces, impl.ThreeMeet, impl.TimesAtPlace, impl.AreSpread, impl.GapsAt, impl.HandsOfDial,
	impl.IsSpan, impl.MakeSpan, impl.AddSpans, impl.CompareSpans, impl.CommonSpan, impl.IsClock, impl.ShownAfter, impl.AheadAfter,
	impl.RightEvery, impl.FirstRight, impl.FirstShown, impl.AgreeEvery, impl.FirstAgree, impl.ClockOfReadings, impl.SetRight,
	impl.SpanText, impl.ParseSpan,
	impl.StrokesAt, impl.StrokesOfTurn, impl.StrokesBetween, impl.StrokeNumber, impl.HeardFrom, impl.HalvesOfHeard, impl.IsHeard,
	impl.KnownAfter, impl.LongestUnknown, impl.NextHeard, impl.StepsBack, impl.StrokesToMend, impl.HalfOfWheel, impl.WaitForStrokes,
	impl.MostInHalves, impl.CountHeardOnce,
	impl.IsSeen, impl.SeenOf, impl.TimeSeen, impl.IsTrueSeen, impl.ExchangeSeen, impl.ExchangedTime, impl.AllExchanged, impl.CountUnsure,
	impl.TimesAlike, impl.MirrorSeen, impl.TurnSeen, impl.TimesTurned, impl.TurnsOfDial, impl.TimesWithAngle, impl.OwnMirrors,
	impl.TimesInGlass,
	impl.IsPair, impl.IsTrain, impl.RatioOf, impl.TurnsOfLast, impl.DirectionOf, impl.BackTrain, impl.MeshesUntilSame, impl.TurnsUntilSame,
	impl.FirstPair, impl.FirstTrain, impl.FewestTeeth, impl.NearestPair, impl.MotionWorks, impl.FirstMotionWork, impl.TeethOf,
	impl.CompareRatios,
	impl.TellOther, impl.SameLook, impl.IsLeapRule, impl.IsLeapYear, impl.CountLeaps, impl.LeapsOfCycle, impl.DaysUpTo, impl.YearOfDay,
	impl.WeekdayOf, impl.WeekCycle, impl.OffBy, impl.YearsForDay, impl.BestRules, impl.MonthsOf, impl.SpreadLeaps, impl.NextLeap,
	impl.IsTune, impl.PhrasesOf, impl.PlayedAt, impl.StandsAt, impl.HoursUntilSame, impl.QuartersOfHeard, impl.NotesUpTo, impl.BellUpTo,
	impl.NextQuarterWith, impl.BellsOf, impl.TurnTune, impl.MirrorTune, impl.IsSameTune, impl.FewestHeard, impl.FullHours, impl.TuneText,
	impl.ParseTune,
	impl.IsClue, impl.IsPuzzle, impl.DoesFit, impl.Solutions, impl.CountSolutions, impl.FirstSolution, impl.SolutionTimes, impl.IsSolved,
	impl.NeedlessClues, impl.DropClue, impl.AddClue, impl.LeftByClues, impl.BestClue, impl.HarderPuzzle, impl.MakePuzzle, impl.PuzzleText,
	impl.ParsePuzzle,
	impl.FirstDesk, impl.IsDesk, impl.DeskLine, impl.RunScript, impl.DeskAfter, impl.FailedLines,
}

var anyInts = []int{math.MinInt, math.MinInt + 1, -maxFraction, -10000, -1, 0, 1, 2, 12, 24, 60, 10000, 1000001, maxFraction, math.MaxInt - 1, math.MaxInt}

var anyStrings = []string{
	"", "+", ":", "/", "01:05:27+3/11", "01:30:00", "00:00:00+", "00:00:00+/", "00:00:00+1/0", "00:00:00+-9223372036854775808/-1",
	"99:99:99+999999/1000000", "\x00\xff:\x80:\xfe\xff", "::::::::", strings.Repeat("0", 100000), strings.Repeat("+", 100000), strings.Repeat("/", 1000),
	"1", "12/21/11", "1/1/1/1/1/1/1/1/1/1/1/2", "12345678/8", "1//2", "1/9", strings.Repeat("1/", 100000) + "1",
	"36/1", "1/0", "0/0", "-1/2", "2/4", "-9223372036854775808/-9223372036854775808", "1/" + strings.Repeat("9", 100000), "\x00/\xff",
	"12:", "12:0.3.0,1.15.0,2.9.0", "24:1.60.59", "25:0.3.0", "12:1.0.0", "12:1.-1.-9223372036854775808", "12:0.3.0,", "12:,,,,,,", "12:" + strings.Repeat("0.3.0,", 100000),
	strings.Repeat(":", 100000), strings.Repeat(",", 100000), strings.Repeat(".", 100000), "12:" + strings.Repeat("9", 100000), "\x00:\xff.\x80.\xfe,\xff",
	"dial 24", "set 01:30:00", "turn 1 8", "turn 1 0", "clock 999999 999999", "with 1 2", "shown 1/0", "ahead 36/1", "best 2422 10000 100000", "best", "set ", " ", "fly", "\n", "show\nturn 1 8\nlong\nfly\n\n",
	"with 1 2\nbest 1 2 9\nset \xff\nleap 0\n", "show\nshow", strings.Repeat("\n", 50), strings.Repeat("\n", 51), strings.Repeat(" ", 3000), strings.Repeat(" ", 2999) + "\n", strings.Repeat("show\n", 100000),
}

var anyHands = []impl.Hand{
	{}, hand(0, 1, 0), hand(0, 1, 1), hand(1, 2, -1), hand(5, 12, 12), hand(1, 997, 400), hand(999, 1000, -400), hand(1, 1001, 1), hand(0, 1, 401),
	hand(math.MinInt, math.MinInt, math.MinInt), hand(math.MaxInt, math.MaxInt, math.MaxInt), hand(0, 1, math.MinInt), hand(1, math.MinInt, 0), hand(1, 0, 1),
}

var anySpans = []impl.Span{
	{}, span(0, 1), span(1, 2), span(1, 10000), span(1000000, 9999), span(1000000, 1), span(1, 10001), span(2, 4), span(1, 0),
	span(math.MinInt, math.MinInt), span(math.MaxInt, 1), span(1, math.MinInt),
}

var anyClocks = []impl.Clock{
	{}, clock(0, 1, 1, 1), clock(1, 2, 1, 1), clock(1, 2, 73, 72), clock(999, 1000, 1000, 1), clock(1, 997, 1, 1000), clock(998, 999, 1000, 999), clock(1, 137, 1, 74),
	clock(1, 1001, 1, 1), clock(0, 1, 2, 2), clock(0, 1, 0, 1), clock(0, 1, 1, 0), clock(0, 1, 0, 0), clock(0, 1, math.MinInt, math.MinInt), clock(0, 1, math.MaxInt, 1),
	clock(0, 0, 1, 1), clock(math.MinInt, math.MinInt, math.MinInt, math.MinInt), clock(math.MaxInt, math.MaxInt, math.MaxInt, math.MaxInt), clock(0, 1, 1, math.MinInt),
}

var anySeen = []impl.Seen{
	{}, seen(0, 1, 0, 1), seen(1, 4, 0, 1), seen(0, 1, 1, 4), seen(1, 143, 12, 143), seen(1, 3, 2, 3), seen(1, 999983, 1, 2), seen(1, 999983, 12, 999983),
	seen(1, 999983, 1, 999983), seen(999999, 1000000, 1, 1000000), seen(1, 1000001, 0, 1), seen(0, 1, 1, 1000001), seen(0, 0, 0, 1), seen(0, 1, 0, 0), seen(2, 4, 0, 1),
	seen(math.MinInt, math.MinInt, math.MinInt, math.MinInt), seen(math.MaxInt, math.MaxInt, math.MaxInt, math.MaxInt), seen(0, 1, 1, math.MinInt), seen(math.MinInt, 1, 0, 1),
}

var anyPairs = []impl.Pair{
	{}, pair(6, 120), pair(10, 30), pair(12, 48), pair(120, 119), pair(7, 6), pair(5, 6), pair(6, 121), pair(0, 10), pair(10, 0), pair(-6, -6),
	pair(math.MinInt, math.MinInt), pair(math.MaxInt, math.MaxInt), pair(math.MinInt, 6), pair(120, math.MaxInt), pair(math.MaxInt, 1),
}

var anyRules = []impl.LeapRule{
	{}, rule(4, 100, 400), rule(4, 0, 0), rule(1, 0, 0), rule(1, 10000, 0), rule(2500, 5000, 10000), rule(10000, 0, 0), rule(2, 4, 0), rule(10001, 0, 0),
	rule(4, 0, 400), rule(0, 100, 400), rule(4, 4, 0), rule(4, 102, 0), rule(0, 0, 400), rule(-4, -8, -16), rule(-1, 0, 0), rule(1, -1, 1), rule(4, 100, -400),
	rule(math.MinInt, math.MinInt, math.MinInt), rule(math.MaxInt, math.MaxInt, math.MaxInt), rule(1, math.MinInt, 0), rule(1, math.MaxInt, 0), rule(1, 2, math.MinInt),
	rule(1, 2, math.MaxInt-1), rule(-1, math.MinInt, 0), rule(1, -1, math.MinInt),
}

var anyClues = []impl.Clue{
	{}, clue(0, 3, 0), clue(1, 15, 0), clue(1, 60, 59), clue(2, 9, 0), clue(3, 0, 0), clue(3, 1, 0), clue(4, 4, 0), clue(5, 12, 0), clue(1, 0, 0), clue(1, -1, 0), clue(1, math.MinInt, -1),
	clue(0, 3, 1), clue(0, 24, 0), clue(4, 0, 0), clue(-1, 0, 0), clue(6, 0, 0), clue(math.MinInt, math.MinInt, math.MinInt), clue(math.MaxInt, math.MaxInt, math.MaxInt),
	clue(1, math.MaxInt, math.MaxInt-1), clue(5, math.MinInt, 0), clue(1, 2, math.MinInt),
}

var anyDesks = []impl.Desk{
	{}, desk(12, turn(0, 1), clock(0, 1, 73, 72)), desk(24, turn(1, 999983), clock(1, 997, 1, 1000)), desk(2, turn(999999, 1000000), clock(999, 1000, 1000, 999)), desk(12, turn(1, 8), clock(1, 2, 1, 1)),
	desk(25, turn(0, 1), clock(0, 1, 1, 1)), desk(12, turn(2, 4), clock(0, 1, 1, 1)), desk(12, turn(0, 1), clock(0, 1, 2, 2)), desk(12, turn(0, 0), clock(0, 0, 0, 0)), desk(12, turn(1, 1001), clock(1, 1001, 1, 2)),
	desk(math.MinInt, turn(math.MinInt, math.MinInt), clock(math.MinInt, math.MinInt, math.MinInt, math.MinInt)), desk(math.MaxInt, turn(math.MaxInt, math.MaxInt), clock(math.MaxInt, math.MaxInt, math.MaxInt, math.MaxInt)),
	desk(12, turn(0, 1), clock(0, 1, math.MinInt, -1)), desk(12, turn(1, math.MinInt), clock(0, 1, 1, math.MinInt)),
}

// anyHandLists have room behind their lengths, with hands in it that are to be left alone.
func anyHandLists() [][]impl.Hand {
	lists := [][]impl.Hand{nil, {}, anyHands, slices.Repeat(anyHands[1:7], 2), slices.Repeat(anyHands[1:5], 1000)}
	for from := range anyHands {
		for _, to := range []int{from, from + 1, from + 2, from + 3} {
			lists = append(lists, slices.Clone(anyHands)[from:min(to, len(anyHands))])
		}
	}
	return append(lists, lists[3][:11], lists[3][1:4])
}

// anyIntLists have room behind their lengths, with numbers in it that are to be left alone.
func anyIntLists() [][]int {
	numbers := []int{12, 1, 1, 1, 2, 1, 3, 1, 24, 0, 1, 25, 2, -1, 1, math.MinInt, math.MaxInt}
	lists := [][]int{nil, {}, numbers}
	for from := range numbers {
		for _, to := range []int{from, from + 1, from + 2, from + 4} {
			lists = append(lists, slices.Clone(numbers)[from:min(to, len(numbers))])
		}
	}
	many := struckBy(12, 5)
	return append(lists, many[:59], many[:60], many[:61], many[24:84], many, slices.Repeat(numbers, 1000), lists[2][:8], lists[2][1:4])
}

// anyTrains have room behind their lengths, with pairs in it that are to be left alone.
func anyTrains() [][]impl.Pair {
	lists := [][]impl.Pair{nil, {}, anyPairs, slices.Clone(anyPairs[1:6]), slices.Repeat(anyPairs[1:5], 1000)}
	for from := range anyPairs {
		for to := from; to <= from+4; to++ {
			lists = append(lists, slices.Clone(anyPairs)[from:min(to, len(anyPairs))])
		}
	}
	return append(lists, lists[3][:4], lists[3][1:3])
}

// anyTextLists have room behind their lengths, with texts in it that are to be left alone.
func anyTextLists() [][]string {
	texts := []string{"12", "21", "11", "2111", "1", "1", "1", "12345678", "8", "122111", "9", "", "1\xff", "123456781", strings.Repeat("1", 100000)}
	lists := [][]string{nil, {}, texts, slices.Repeat(texts[:3], 4), slices.Repeat(texts, 1000)}
	for from := range texts {
		for _, to := range []int{from, from + 1, from + 3, from + 8} {
			lists = append(lists, slices.Clone(texts)[from:min(to, len(texts))])
		}
	}
	return append(lists, lists[3][:11], lists[3][1:4], lists[3][3:3])
}

// anyPuzzles have room behind their clues, with clues in it that are to be left alone.
func anyPuzzles() []impl.Puzzle {
	lists := [][]impl.Clue{nil, {}, slices.Clone(anyClues), slices.Repeat(anyClues[1:5], 2), slices.Repeat(anyClues, 1000)}
	for from := range anyClues {
		for _, to := range []int{from, from + 1, from + 3, from + 6} {
			lists = append(lists, slices.Clone(anyClues)[from:min(to, len(anyClues))])
		}
	}
	lists = append(lists, lists[3][:6], lists[3][:5], lists[3][1:3], lists[3][:7])
	var puzzles []impl.Puzzle
	for _, list := range lists {
		puzzles = append(puzzles, puzzle(12, list...))
	}
	for _, h := range append(anyInts, 3, 25) {
		puzzles = append(puzzles, puzzle(h), puzzle(h, lists[3][:6]...), puzzle(h, lists[3][1:2]...))
	}
	return puzzles
}

func anyValues(kind reflect.Type) []reflect.Value {
	var values []reflect.Value
	switch kind {
	case reflect.TypeFor[int]():
		for _, n := range anyInts {
			values = append(values, reflect.ValueOf(n))
		}
	case reflect.TypeFor[string]():
		for _, s := range anyStrings {
			values = append(values, reflect.ValueOf(s))
		}
	case reflect.TypeFor[impl.Turn]():
		for _, num := range anyInts {
			for _, den := range anyInts {
				values = append(values, reflect.ValueOf(turn(num, den)))
			}
		}
		values = append(values, reflect.ValueOf(turn(1, 11)), reflect.ValueOf(turn(1, 999983)), reflect.ValueOf(turn(999999, 1000000)))
	case reflect.TypeFor[impl.Hand]():
		for _, a := range anyHands {
			values = append(values, reflect.ValueOf(a))
		}
	case reflect.TypeFor[impl.Span]():
		for _, s := range anySpans {
			values = append(values, reflect.ValueOf(s))
		}
	case reflect.TypeFor[impl.Clock]():
		for _, c := range anyClocks {
			values = append(values, reflect.ValueOf(c))
		}
	case reflect.TypeFor[impl.Seen]():
		for _, s := range anySeen {
			values = append(values, reflect.ValueOf(s))
		}
	case reflect.TypeFor[impl.Pair]():
		for _, p := range anyPairs {
			values = append(values, reflect.ValueOf(p))
		}
	case reflect.TypeFor[impl.LeapRule]():
		for _, r := range anyRules {
			values = append(values, reflect.ValueOf(r))
		}
	case reflect.TypeFor[impl.Clue]():
		for _, c := range anyClues {
			values = append(values, reflect.ValueOf(c))
		}
	case reflect.TypeFor[impl.Desk]():
		for _, d := range anyDesks {
			values = append(values, reflect.ValueOf(d))
		}
	case reflect.TypeFor[impl.Puzzle]():
		for _, p := range anyPuzzles() {
			values = append(values, reflect.ValueOf(p))
		}
	case reflect.TypeFor[[]int]():
		for _, list := range anyIntLists() {
			values = append(values, reflect.ValueOf(list))
		}
	case reflect.TypeFor[[]string]():
		for _, list := range anyTextLists() {
			values = append(values, reflect.ValueOf(list))
		}
	case reflect.TypeFor[[]impl.Hand]():
		for _, list := range anyHandLists() {
			values = append(values, reflect.ValueOf(list))
		}
	case reflect.TypeFor[[]impl.Pair]():
		for _, list := range anyTrains() {
			values = append(values, reflect.ValueOf(list))
		}
	default:
		panic("no values of the type " + kind.String())
	}
	return values
}

func TestAnyArguments(t *testing.T) {
	for _, f := range anyFunctions {
		function := reflect.ValueOf(f)
		name := runtime.FuncForPC(function.Pointer()).Name()
		withAllArguments(function.Type(), nil, func(args []reflect.Value) {
			checkCall(t, name, function, args)
		})
	}
}

// withAllArguments calls try with each list of arguments that begins with those in args.
func withAllArguments(kind reflect.Type, args []reflect.Value, try func([]reflect.Value)) {
	if len(args) == kind.NumIn() {
		try(args)
		return
	}
	for _, value := range anyValues(kind.In(len(args))) {
		withAllArguments(kind, append(args[:len(args):len(args)], value), try)
	}
}

// checkCall calls a function twice, with the slices of the first results overwritten in between, and without the room behind
// the slices of the arguments the second time: it must tell the same, and leave its arguments with this room as they were.
// A call that fails must have zero results.
func checkCall(t *testing.T, name string, function reflect.Value, args []reflect.Value) {
	t.Helper()
	defer func() {
		if raised := recover(); raised != nil {
			t.Errorf("%s of %v panics: %v", name, args, raised)
		}
	}()
	before, clipped := each(args, whole), each(args, copied)
	first := function.Call(args)
	told := make([]any, len(first))
	for i, result := range first {
		told[i] = copied(result).Interface()
		if shares(result) {
			t.Errorf("%s of %v returns slices that share memory", name, args)
		}
		overwrite(result)
	}
	for i, arg := range each(args, whole) {
		if !reflect.DeepEqual(arg.Interface(), before[i].Interface()) {
			t.Errorf("%s modifies its argument %v to %v", name, before[i], arg)
		}
	}
	for i, result := range function.Call(clipped) {
		if !reflect.DeepEqual(result.Interface(), told[i]) {
			t.Errorf("%s of %v returns %v, and then %v", name, args, told[i], result)
		}
	}
	checkFailure(t, name, args, told)
}

func checkFailure(t *testing.T, name string, args []reflect.Value, told []any) {
	t.Helper()
	last := len(told) - 1
	if told[last] != false {
		return
	}
	for _, other := range told[:last] {
		if v := reflect.ValueOf(other); !v.IsZero() && !(v.Kind() == reflect.Slice && v.Len() == 0) {
			t.Errorf("%s of %v fails, and returns %v", name, args, other)
		}
	}
}

func each(values []reflect.Value, change func(reflect.Value) reflect.Value) []reflect.Value {
	var list []reflect.Value
	for _, v := range values {
		list = append(list, change(v))
	}
	return list
}

// whole returns a copy of a slice, or of a struct with slices in it, together with the room behind it, or else the value.
func whole(v reflect.Value) reflect.Value {
	if hasSlices(v) {
		return eachField(v, whole)
	}
	if v.Kind() != reflect.Slice || v.IsNil() {
		return v
	}
	return copied(v.Slice(0, v.Cap()))
}

// copied returns a copy of a slice, or of a struct with slices in it, and of the slices in it, without room behind it, or else
// the value.
func copied(v reflect.Value) reflect.Value {
	if hasSlices(v) {
		return eachField(v, copied)
	}
	if v.Kind() != reflect.Slice || v.IsNil() {
		return v
	}
	list := reflect.MakeSlice(v.Type(), v.Len(), v.Len())
	for i := range v.Len() {
		list.Index(i).Set(copied(v.Index(i)))
	}
	return list
}

// hasSlices tells structs with slices in them from others: they cannot be compared.
func hasSlices(v reflect.Value) bool {
	return v.Kind() == reflect.Struct && !v.Type().Comparable()
}

func eachField(v reflect.Value, change func(reflect.Value) reflect.Value) reflect.Value {
	changed := reflect.New(v.Type()).Elem()
	for i := range v.NumField() {
		changed.Field(i).Set(change(v.Field(i)))
	}
	return changed
}

// shares tells whether slices in a slice share memory: to overwrite the one must not change those behind it. Those are overwritten.
func shares(v reflect.Value) bool {
	if v.Kind() != reflect.Slice || v.Type().Elem().Kind() != reflect.Slice {
		return false
	}
	before := copied(v)
	for i := range v.Len() {
		if !reflect.DeepEqual(copied(v.Index(i)).Interface(), before.Index(i).Interface()) {
			return true
		}
		overwrite(v.Index(i))
	}
	return false
}

// overwrite makes all elements of a slice, or of those in a struct, zero, those in its spare capacity too.
func overwrite(v reflect.Value) {
	if hasSlices(v) {
		for i := range v.NumField() {
			overwrite(v.Field(i))
		}
	}
	if v.Kind() != reflect.Slice {
		return
	}
	all := v.Slice(0, v.Cap())
	for i := range all.Len() {
		all.Index(i).SetZero()
	}
}
