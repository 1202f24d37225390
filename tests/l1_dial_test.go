package tests

import (
	"fmt"
	"math"
	"math/big"
	"slices"
	"testing"

	"loop.example/g01241/impl"
)

const (
	maxFraction = 1000000000000
	maxFactor   = 10000
)

func turn(num int, den int) impl.Turn {
	return impl.Turn{Num: num, Den: den}
}

// noTurns are values that break the rules for turns, each in its own way.
var noTurns = []impl.Turn{
	turn(0, 0), turn(1, 0), turn(0, 2), turn(2, 4), turn(1, 1), turn(3, 2), turn(-1, 2), turn(1, -2), turn(-1, -2), turn(0, -1),
	turn(1, 1000001), turn(math.MinInt, 1), turn(math.MaxInt, math.MaxInt), turn(math.MinInt, math.MinInt), turn(1, math.MinInt), turn(math.MinInt, 3),
}

var noDials = []int{math.MinInt, -12, -1, 0, 1, 25, 1000000, math.MaxInt}

// someTurns are all turns with a Den of at most 30, and some with a great one.
func someTurns() []impl.Turn {
	list := []impl.Turn{
		turn(1, 1000000), turn(999999, 1000000), turn(1, 999983), turn(999982, 999983), turn(500000, 999999),
		turn(1, 43200), turn(43199, 43200), turn(1, 86400), turn(86399, 86400), turn(719, 720), turn(12345, 86399),
	}
	for den := 1; den <= 30; den++ {
		for num := range den {
			if t := turn(num, den); ratOf(t).Denom().Int64() == int64(den) {
				list = append(list, t)
			}
		}
	}
	return list
}

func ratOf(t impl.Turn) *big.Rat {
	return big.NewRat(int64(t.Num), int64(t.Den))
}

func floorOf(r *big.Rat) int {
	return int(new(big.Int).Div(r.Num(), r.Denom()).Int64())
}

// partOf returns r without whole turns.
func partOf(r *big.Rat) *big.Rat {
	return new(big.Rat).Sub(r, big.NewRat(int64(floorOf(r)), 1))
}

func timesRat(r *big.Rat, k int) *big.Rat {
	return new(big.Rat).Mul(r, big.NewRat(int64(k), 1))
}

// turnOfRat is an independent MakeTurn for a fraction of any size.
func turnOfRat(r *big.Rat) (impl.Turn, bool) {
	part := partOf(r)
	if part.Denom().Cmp(big.NewInt(impl.MaxDen)) > 0 {
		return impl.Turn{}, false
	}
	return turn(int(part.Num().Int64()), int(part.Denom().Int64())), true
}

func wantResult[T comparable](t *testing.T, what string, got T, ok bool, want T, wantOk bool) {
	t.Helper()
	if got != want || ok != wantOk {
		t.Errorf("%s: got %v, %v, want %v, %v", what, got, ok, want, wantOk)
	}
}

// wantTurn expects the part of a turn that r is, or a failure if that is no turn.
func wantTurn(t *testing.T, what string, got impl.Turn, ok bool, r *big.Rat) {
	t.Helper()
	want, wantOk := turnOfRat(r)
	wantResult(t, what, got, ok, want, wantOk)
}

func wantFailure[T comparable](t *testing.T, what string, got T, ok bool) {
	t.Helper()
	var zero T
	wantResult(t, what, got, ok, zero, false)
}

func TestConstantsOfDials(t *testing.T) {
	if impl.MaxDen != 1000000 || impl.MinHours != 2 || impl.MaxHours != 24 {
		t.Error("constants", impl.MaxDen, impl.MinHours, impl.MaxHours)
	}
}

func TestIsTurn(t *testing.T) {
	for _, x := range someTurns() {
		if !impl.IsTurn(x) {
			t.Errorf("%v is a turn", x)
		}
	}
	for _, x := range noTurns {
		if impl.IsTurn(x) {
			t.Errorf("%v is no turn", x)
		}
	}
	for den := -3; den <= 40; den++ {
		for num := -3; num <= 42; num++ {
			want := den >= 1 && num >= 0 && num < den && big.NewRat(int64(num), int64(den)).Denom().Int64() == int64(den)
			if impl.IsTurn(turn(num, den)) != want {
				t.Errorf("IsTurn of %d/%d is not %v", num, den, want)
			}
		}
	}
}

func TestMakeTurn(t *testing.T) {
	sizes := []int{0, 1, 2, 7, 60, 143, 999999, 1000000, 1000001, 86400000000, 999999999989, maxFraction - 1, maxFraction}
	for _, num := range sizes {
		for _, den := range sizes[1:] {
			for _, n := range []int{num, -num} {
				got, ok := impl.MakeTurn(n, den)
				wantTurn(t, fmt.Sprint("MakeTurn ", n, den), got, ok, big.NewRat(int64(n), int64(den)))
			}
		}
	}
	for _, c := range []struct {
		num, den int
		want     impl.Turn
	}{
		{7, 4, turn(3, 4)}, {-1, 4, turn(3, 4)}, {-9, 4, turn(3, 4)}, {6, 8, turn(3, 4)}, {-4, 4, turn(0, 1)}, {0, 9, turn(0, 1)},
		{1, 1000000, turn(1, 1000000)}, {1000000, maxFraction, turn(1, 1000000)}, {-maxFraction, maxFraction, turn(0, 1)}, {maxFraction, 7, turn(1, 7)},
	} {
		got, ok := impl.MakeTurn(c.num, c.den)
		wantResult(t, fmt.Sprint("MakeTurn ", c.num, c.den), got, ok, c.want, true)
	}
	for _, c := range [][2]int{
		{1, 0}, {1, -1}, {0, 0}, {1, math.MinInt}, {1, maxFraction + 1}, {0, maxFraction + 1}, {maxFraction + 1, 1}, {-maxFraction - 1, 1},
		{math.MinInt, 1}, {math.MaxInt, 1}, {math.MinInt, -1}, {1, 1000001}, {1, maxFraction},
	} {
		got, ok := impl.MakeTurn(c[0], c[1])
		wantFailure(t, fmt.Sprint("MakeTurn ", c), got, ok)
	}
}

func TestTurnsTogether(t *testing.T) {
	list := append(someTurns(), turn(1, 64), turn(1, 15625), turn(1, 1000), turn(1, 1001), turn(999, 1000))
	for _, a := range list {
		for _, b := range list {
			sum, ok := impl.AddTurns(a, b)
			wantTurn(t, fmt.Sprint("AddTurns ", a, b), sum, ok, new(big.Rat).Add(ratOf(a), ratOf(b)))
			less, ok := impl.LessTurn(a, b)
			wantTurn(t, fmt.Sprint("LessTurn ", a, b), less, ok, new(big.Rat).Sub(ratOf(a), ratOf(b)))
			order, ok := impl.CompareTurns(a, b)
			wantResult(t, fmt.Sprint("CompareTurns ", a, b), order, ok, ratOf(a).Cmp(ratOf(b)), true)
		}
	}
	sum, ok := impl.AddTurns(turn(1, 64), turn(1, 15625))
	wantResult(t, "a Den of just MaxDen", sum, ok, turn(15689, 1000000), true)
	sum, ok = impl.AddTurns(turn(1, 1000), turn(1, 1001))
	wantFailure(t, "a Den of 1001000", sum, ok)
	sum, ok = impl.AddTurns(turn(3, 4), turn(1, 2))
	wantResult(t, "beyond the top", sum, ok, turn(1, 4), true)
	less, ok := impl.LessTurn(turn(1, 4), turn(3, 4))
	wantResult(t, "behind the top", less, ok, turn(1, 2), true)
	less, ok = impl.LessTurn(turn(1, 1000), turn(1, 1001))
	wantFailure(t, "less with a Den of 1001000", less, ok)
}

func TestTurnsTogetherOfNoTurns(t *testing.T) {
	for _, bad := range noTurns {
		for _, pair := range [][2]impl.Turn{{bad, turn(1, 2)}, {turn(0, 1), bad}, {bad, bad}} {
			sum, ok := impl.AddTurns(pair[0], pair[1])
			wantFailure(t, fmt.Sprint("AddTurns ", pair), sum, ok)
			less, ok := impl.LessTurn(pair[0], pair[1])
			wantFailure(t, fmt.Sprint("LessTurn ", pair), less, ok)
			order, ok := impl.CompareTurns(pair[0], pair[1])
			wantFailure(t, fmt.Sprint("CompareTurns ", pair), order, ok)
		}
	}
}

func TestTimesAndPartsOfTurns(t *testing.T) {
	for _, x := range someTurns() {
		for _, k := range []int{0, 1, 2, 12, 60, 1440, maxFactor - 1, maxFactor} {
			for _, factor := range []int{k, -k} {
				got, ok := impl.TimesTurn(x, factor)
				wantTurn(t, fmt.Sprint("TimesTurn ", x, factor), got, ok, timesRat(ratOf(x), factor))
			}
			if k == 0 {
				continue
			}
			got, ok := impl.PartOfTurn(x, k)
			wantTurn(t, fmt.Sprint("PartOfTurn ", x, k), got, ok, new(big.Rat).Mul(ratOf(x), big.NewRat(1, int64(k))))
			if back, _ := impl.TimesTurn(got, k); ok && back != x {
				t.Errorf("%d times %v is %v and not %v", k, got, back, x)
			}
		}
		mirror, ok := impl.MirrorTurn(x)
		wantTurn(t, fmt.Sprint("MirrorTurn ", x), mirror, ok, timesRat(ratOf(x), -1))
	}
	mirror, ok := impl.MirrorTurn(turn(0, 1))
	wantResult(t, "mirror of 0", mirror, ok, turn(0, 1), true)
	part, ok := impl.PartOfTurn(turn(1, 100), maxFactor)
	wantResult(t, "a Den of just MaxDen", part, ok, turn(1, 1000000), true)
	part, ok = impl.PartOfTurn(turn(1, 101), maxFactor)
	wantFailure(t, "a Den of 1010000", part, ok)
	part, ok = impl.PartOfTurn(turn(0, 1), maxFactor)
	wantResult(t, "part of 0", part, ok, turn(0, 1), true)
}

func TestTimesAndPartsOutsideTheLimits(t *testing.T) {
	for _, k := range []int{maxFactor + 1, -maxFactor - 1, math.MaxInt, math.MinInt} {
		for _, x := range []impl.Turn{turn(0, 1), turn(1, 2)} {
			got, ok := impl.TimesTurn(x, k)
			wantFailure(t, fmt.Sprint("TimesTurn ", x, k), got, ok)
		}
	}
	for _, k := range []int{0, -1, -maxFactor, maxFactor + 1, math.MaxInt, math.MinInt} {
		for _, x := range []impl.Turn{turn(0, 1), turn(1, 2)} {
			got, ok := impl.PartOfTurn(x, k)
			wantFailure(t, fmt.Sprint("PartOfTurn ", x, k), got, ok)
		}
	}
	for _, bad := range noTurns {
		got, ok := impl.TimesTurn(bad, 1)
		wantFailure(t, fmt.Sprint("TimesTurn ", bad), got, ok)
		got, ok = impl.PartOfTurn(bad, 1)
		wantFailure(t, fmt.Sprint("PartOfTurn ", bad), got, ok)
		got, ok = impl.MirrorTurn(bad)
		wantFailure(t, fmt.Sprint("MirrorTurn ", bad), got, ok)
	}
}

// wantText is an independent TimeText.
func wantText(h int, x *big.Rat) string {
	seconds := timesRat(x, 3600*h)
	whole := floorOf(seconds)
	s := fmt.Sprintf("%02d:%02d:%02d", whole/3600, whole/60%60, whole%60)
	if part := partOf(seconds); part.Sign() > 0 {
		s += "+" + part.Num().String() + "/" + part.Denom().String()
	}
	return s
}

func TestTimesOfDials(t *testing.T) {
	for h := impl.MinHours; h <= impl.MaxHours; h++ {
		for _, x := range someTurns() {
			what := fmt.Sprint(" of ", x, " with hours ", h)
			r := ratOf(x)
			long, ok := impl.LongHand(h, x)
			wantTurn(t, "LongHand"+what, long, ok, timesRat(r, h))
			angle, ok := impl.AngleOf(h, x)
			wantTurn(t, "AngleOf"+what, angle, ok, timesRat(r, h-1))
			small, other := partOf(timesRat(r, h-1)), partOf(timesRat(r, 1-h))
			if small.Cmp(other) > 0 {
				small = other
			}
			smallAngle, ok := impl.SmallAngle(h, x)
			wantTurn(t, "SmallAngle"+what, smallAngle, ok, small)
			hour, ok := impl.HourOf(h, x)
			wantResult(t, "HourOf"+what, hour, ok, floorOf(timesRat(r, h)), true)
			minute, ok := impl.MinuteOf(h, x)
			wantResult(t, "MinuteOf"+what, minute, ok, floorOf(timesRat(r, 60*h))%60, true)
			second, ok := impl.SecondOf(h, x)
			wantTurn(t, "SecondOf"+what, second, ok, timesRat(r, 60*h))
			text, ok := impl.TimeText(h, x)
			wantResult(t, "TimeText"+what, text, ok, wantText(h, r), true)
			time, ok := impl.ParseTime(h, text)
			wantResult(t, "ParseTime"+what, time, ok, x, true)
		}
	}
}

func TestTimesOfNoDialsAndNoTurns(t *testing.T) {
	check := func(h int, x impl.Turn) {
		t.Helper()
		what := fmt.Sprint(" of ", x, " with hours ", h)
		for name, f := range map[string]func(int, impl.Turn) (impl.Turn, bool){
			"LongHand": impl.LongHand, "AngleOf": impl.AngleOf, "SmallAngle": impl.SmallAngle, "SecondOf": impl.SecondOf,
		} {
			got, ok := f(h, x)
			wantFailure(t, name+what, got, ok)
		}
		hour, ok := impl.HourOf(h, x)
		wantFailure(t, "HourOf"+what, hour, ok)
		minute, ok := impl.MinuteOf(h, x)
		wantFailure(t, "MinuteOf"+what, minute, ok)
		text, ok := impl.TimeText(h, x)
		wantFailure(t, "TimeText"+what, text, ok)
		if times, ok := impl.TimesWithLong(h, x); ok || len(times) != 0 {
			t.Errorf("TimesWithLong%s: got %v, %v", what, times, ok)
		}
	}
	for _, h := range noDials {
		check(h, turn(1, 8))
		check(h, turn(0, 1))
	}
	for _, bad := range noTurns {
		check(12, bad)
	}
}

func TestExampleOfDials(t *testing.T) {
	eighth, eleventh := turn(1, 8), turn(1, 11)
	text, ok := impl.TimeText(12, eighth)
	wantResult(t, "text of 1/8", text, ok, "01:30:00", true)
	long, ok := impl.LongHand(12, eighth)
	wantResult(t, "long hand at 1/8", long, ok, turn(1, 2), true)
	angle, ok := impl.AngleOf(12, eighth)
	wantResult(t, "angle at 1/8", angle, ok, turn(3, 8), true)
	text, ok = impl.TimeText(12, eleventh)
	wantResult(t, "text of 1/11", text, ok, "01:05:27+3/11", true)
	angle, ok = impl.AngleOf(12, eleventh)
	wantResult(t, "angle at 1/11", angle, ok, turn(0, 1), true)
	times, ok := impl.TimesWithLong(12, turn(1, 2))
	if !ok || len(times) != 12 || !slices.Equal(times[:3], []impl.Turn{turn(1, 24), turn(1, 8), turn(5, 24)}) {
		t.Error("times with the long hand at 1/2", times, ok)
	}
}

func TestSmallAngle(t *testing.T) {
	for _, c := range []struct{ time, want impl.Turn }{
		{turn(0, 1), turn(0, 1)}, {turn(1, 22), turn(1, 2)}, {turn(1, 44), turn(1, 4)}, {turn(3, 44), turn(1, 4)}, {turn(1, 12), turn(1, 12)}, {turn(11, 12), turn(1, 12)},
	} {
		got, ok := impl.SmallAngle(12, c.time)
		wantResult(t, fmt.Sprint("SmallAngle at ", c.time), got, ok, c.want, true)
	}
}

func TestTimeOf(t *testing.T) {
	for h := impl.MinHours; h <= impl.MaxHours; h++ {
		for hour := range h {
			for _, minute := range []int{0, 1, 30, 59} {
				for _, second := range []int{0, 1, 45, 59} {
					what := fmt.Sprint("TimeOf ", h, hour, minute, second)
					got, ok := impl.TimeOf(h, hour, minute, second)
					wantTurn(t, what, got, ok, big.NewRat(int64(hour*3600+minute*60+second), int64(3600*h)))
					text, _ := impl.TimeText(h, got)
					wantResult(t, what, text, ok, fmt.Sprintf("%02d:%02d:%02d", hour, minute, second), true)
				}
			}
		}
	}
	for _, c := range [][4]int{
		{12, 12, 0, 0}, {12, -1, 0, 0}, {12, 0, 60, 0}, {12, 0, -1, 0}, {12, 0, 0, 60}, {12, 0, 0, -1}, {24, 24, 0, 0}, {2, 2, 0, 0},
		{1, 0, 0, 0}, {25, 0, 0, 0}, {0, 0, 0, 0}, {-2, 0, 0, 0}, {12, math.MaxInt, 0, 0}, {12, 0, math.MinInt, 0}, {12, 0, 0, math.MaxInt}, {math.MaxInt, 0, 0, 0},
	} {
		got, ok := impl.TimeOf(c[0], c[1], c[2], c[3])
		wantFailure(t, fmt.Sprint("TimeOf ", c), got, ok)
	}
}

// timesWithLong is an independent TimesWithLong.
func timesWithLong(h int, long impl.Turn) ([]impl.Turn, bool) {
	var times []impl.Turn
	for around := range h {
		r := new(big.Rat).Add(ratOf(long), big.NewRat(int64(around), 1))
		time, ok := turnOfRat(r.Mul(r, big.NewRat(1, int64(h))))
		if !ok {
			return nil, false
		}
		times = append(times, time)
	}
	return times, true
}

func TestTimesWithLong(t *testing.T) {
	for h := impl.MinHours; h <= impl.MaxHours; h++ {
		for _, long := range append(someTurns(), turn(1, 41666), turn(41665, 41666), turn(1, 41667), turn(41666, 41667)) {
			times, ok := impl.TimesWithLong(h, long)
			want, wantOk := timesWithLong(h, long)
			if !slices.Equal(times, want) || ok != wantOk {
				t.Errorf("TimesWithLong %d %v: got %v, %v, want %v, %v", h, long, times, ok, want, wantOk)
			}
			for _, time := range times {
				stands, ok := impl.LongHand(h, time)
				wantResult(t, fmt.Sprint("LongHand ", h, time), stands, ok, long, true)
			}
		}
	}
	times, ok := impl.TimesWithLong(2, turn(1, 500000))
	if !ok || !slices.Equal(times, []impl.Turn{turn(1, 1000000), turn(500001, 1000000)}) {
		t.Error("a Den of just MaxDen", times, ok)
	}
	times, ok = impl.TimesWithLong(3, turn(0, 1))
	if !ok || !slices.Equal(times, []impl.Turn{turn(0, 1), turn(1, 3), turn(2, 3)}) {
		t.Error("the long hand at the top", times, ok)
	}
}

func TestTimesWithLongThatAreNoTurns(t *testing.T) {
	for _, c := range []struct {
		why  string
		long impl.Turn
	}{
		{"the first time is no turn, the last one 250001/500001", turn(1, 500001)},
		{"the first time is 1/500001, the last one no turn", turn(2, 500001)},
		{"neither time is a turn", turn(1, 1000000)},
	} {
		if times, ok := impl.TimesWithLong(2, c.long); ok || len(times) != 0 {
			t.Error(c.why, times, ok)
		}
	}
}

func TestTextsAtTheLimits(t *testing.T) {
	for _, c := range []struct {
		h    int
		time impl.Turn
		text string
	}{
		{12, turn(0, 1), "00:00:00"}, {2, turn(1, 2), "01:00:00"}, {24, turn(23, 24), "23:00:00"}, {12, turn(43199, 43200), "11:59:59"},
		{24, turn(86399, 86400), "23:59:59"}, {24, turn(999999, 1000000), "23:59:59+571/625"}, {12, turn(1, 999983), "00:00:00+43200/999983"},
		{12, turn(999982, 999983), "11:59:59+956783/999983"}, {2, turn(1, 1000000), "00:00:00+9/1250"}, {2, turn(1, 3), "00:40:00"},
	} {
		text, ok := impl.TimeText(c.h, c.time)
		wantResult(t, fmt.Sprint("TimeText ", c.h, c.time), text, ok, c.text, true)
		time, ok := impl.ParseTime(c.h, c.text)
		wantResult(t, "ParseTime "+c.text, time, ok, c.time, true)
	}
	// As a part of a second alone this has a Den beyond MaxDen; together with the seconds it has not.
	text, _ := impl.TimeText(12, turn(100, 999983))
	time, ok := impl.ParseTime(12, text)
	wantResult(t, "ParseTime "+text, time, ok, turn(100, 999983), true)
}

func TestParseTimeOfNoText(t *testing.T) {
	for _, s := range []string{
		"", ":", "::", "+", "0", "00:00", "00:00:0", "0:00:00", "00:0:00", "000:00:00", "00:00:000", "00:00:00:", ":00:00:00", "00:00:00:00",
		"12:00:00", "24:00:00", "99:00:00", "00:60:00", "00:00:60", "00:99:99", "-1:00:00", "+1:00:00", "00:-1:00", "00:+1:00", "00:00:-1", "00:00:+1",
		" 1:00:00", "1 :00:00", " 01:00:00", "01:00:00 ", "01:00:00\n", "01-00-00", "01:00-00", "01:00.00", "aa:00:00", "0x:00:00", "0_:00:00", "01:00:0a", "٠١:00:00",
		"01:05:27+", "01:05:27+/", "01:05:27+3", "01:05:27+3/", "01:05:27+/11", "01:05:27+0/1", "01:05:27+0/11", "01:05:27+6/22", "01:05:27+14/11", "01:05:27+11/11",
		"01:05:27+-3/11", "01:05:27++3/11", "01:05:27+3/-11", "01:05:27+3/+11", "01:05:27+03/11", "01:05:27+3/011", "01:05:27+3/11/", "01:05:27+3/11/1", "01:05:27+3/11+3/11",
		"01:05:27 +3/11", "01:05:27+ 3/11", "01:05:27+3 /11", "01:05:27-3/11", "01:05:27+3:11", "01:05:27+3/0", "01:05:27+1_0/11",
		"00:00:00+1/1000003", "00:00:00+1/1000000", "00:00:01+1/999983", "00:00:00+99999999999999999999/11", "00:00:00+1/99999999999999999999",
	} {
		time, ok := impl.ParseTime(12, s)
		wantFailure(t, fmt.Sprintf("ParseTime %q", s), time, ok)
	}
	for _, h := range noDials {
		time, ok := impl.ParseTime(h, "00:00:00")
		wantFailure(t, fmt.Sprint("ParseTime with hours ", h), time, ok)
	}
	time, ok := impl.ParseTime(2, "02:00:00")
	wantFailure(t, "02:00:00 of 2 hours", time, ok)
	time, ok = impl.ParseTime(24, "12:00:00")
	wantResult(t, "12:00:00 of 24 hours", time, ok, turn(1, 2), true)
}
