package tests

import (
	"fmt"
	"math"
	"math/big"
	"testing"

	"loop.example/g01241/impl"
)

func span(num int, den int) impl.Span {
	return impl.Span{Num: num, Den: den}
}

func clock(startNum int, startDen int, num int, den int) impl.Clock {
	return impl.Clock{Start: turn(startNum, startDen), Num: num, Den: den}
}

// noSpans are values that break the rules for spans, each in its own way.
var noSpans = []impl.Span{
	{}, span(1, 0), span(0, 2), span(0, 10000), span(2, 4), span(4, 2), span(-1, 2), span(1, -2), span(-1, -2), span(0, -1), span(1000001, 1), span(1, 10001),
	span(1000000, 10000), span(math.MaxInt, 1), span(math.MinInt, 1), span(1, math.MaxInt), span(1, math.MinInt), span(math.MinInt, math.MinInt), span(math.MaxInt, math.MaxInt),
}

// noClocks are values that break the rules for clocks: rates, and starts that are no turns or have a Den of more than 1000.
func noClocks() []impl.Clock {
	list := []impl.Clock{
		{}, clock(0, 1, 0, 1), clock(0, 1, 1, 0), clock(0, 1, 0, 0), clock(0, 1, -1, 1), clock(0, 1, 1, -1), clock(0, 1, -1, -1), clock(0, 1, 2, 2), clock(0, 1, 4, 6),
		clock(0, 1, 1001, 1), clock(0, 1, 1, 1001), clock(0, 1, 1001, 1000), clock(0, 1, math.MaxInt, 1), clock(0, 1, 1, math.MinInt), clock(0, 1, math.MinInt, math.MinInt),
		clock(1, 1001, 73, 72), clock(1000, 1001, 73, 72), clock(1, 1000000, 1, 1), clock(0, 0, 1, 1),
	}
	for _, bad := range noTurns {
		list = append(list, impl.Clock{Start: bad, Num: 73, Den: 72})
	}
	return list
}

// someSpans are spans at the limits, and many small ones.
func someSpans() []impl.Span {
	list := []impl.Span{
		span(1, 10000), span(9999, 10000), span(1000000, 1), span(999999, 1), span(999999, 10000), span(1000000, 9999), span(1, 9973), span(1, 101), span(101, 9901),
		span(36, 1), span(72, 1), span(143, 12), span(719, 720),
	}
	for den := 1; den <= 8; den++ {
		for num := range 3 * den {
			if s := span(num, den); ratOfSpan(s).Denom().Int64() == int64(den) {
				list = append(list, s)
			}
		}
	}
	return list
}

func someClocks() []impl.Clock {
	var list []impl.Clock
	for _, start := range []impl.Turn{turn(0, 1), turn(1, 2), turn(5, 12), turn(999, 1000), turn(1, 997)} {
		for _, rate := range [][2]int{{1, 1}, {73, 72}, {71, 72}, {2, 1}, {1, 2}, {1000, 1}, {1, 1000}, {1000, 999}, {999, 1000}, {997, 991}} {
			list = append(list, impl.Clock{Start: start, Num: rate[0], Den: rate[1]})
		}
	}
	return list
}

func ratOfSpan(s impl.Span) *big.Rat {
	return big.NewRat(int64(s.Num), int64(s.Den))
}

func rateOf(c impl.Clock) *big.Rat {
	return big.NewRat(int64(c.Num), int64(c.Den))
}

// spanOfRat is an independent MakeSpan for a fraction of any size.
func spanOfRat(r *big.Rat) (impl.Span, bool) {
	if r.Sign() < 0 || r.Num().Cmp(big.NewInt(impl.MaxSpan)) > 0 || r.Denom().Cmp(big.NewInt(impl.MaxPart)) > 0 {
		return impl.Span{}, false
	}
	return span(int(r.Num().Int64()), int(r.Denom().Int64())), true
}

// wantSpan expects the span that r is, or a failure if r is nil or no span.
func wantSpan(t *testing.T, what string, got impl.Span, ok bool, r *big.Rat) {
	t.Helper()
	var want impl.Span
	var wantOk bool
	if r != nil {
		want, wantOk = spanOfRat(r)
	}
	wantResult(t, what, got, ok, want, wantOk)
}

// shows is an independent ShownAfter for spans and turns of any size.
func shows(c impl.Clock, s *big.Rat) *big.Rat {
	way := new(big.Rat).Mul(rateOf(c), s)
	return partOf(way.Add(way, ratOf(c.Start)))
}

func isRight(c impl.Clock, s *big.Rat) bool {
	return shows(c, s).Cmp(partOf(s)) == 0
}

// firstAgree is an independent FirstAgree: it tries how many whole turns the one may be ahead. It is nil if there is no such span.
func firstAgree(a impl.Clock, b impl.Clock) *big.Rat {
	speed := new(big.Rat).Sub(rateOf(a), rateOf(b))
	if speed.Sign() == 0 {
		return nil
	}
	var least *big.Rat
	for whole := int64(-3); whole <= 3; whole++ {
		s := new(big.Rat).Sub(ratOf(b.Start), ratOf(a.Start))
		s.Add(s, big.NewRat(whole, 1)).Quo(s, speed)
		if s.Sign() > 0 && (least == nil || s.Cmp(least) < 0) {
			least = s
		}
	}
	return least
}

func TestConstantsOfDrifts(t *testing.T) {
	if impl.MaxSpan != 1000000 || impl.MaxPart != 10000 || impl.MaxRate != 1000 {
		t.Error("constants", impl.MaxSpan, impl.MaxPart, impl.MaxRate)
	}
}

func TestIsSpan(t *testing.T) {
	for _, s := range someSpans() {
		if !impl.IsSpan(s) {
			t.Errorf("%v is a span", s)
		}
	}
	for _, s := range noSpans {
		if impl.IsSpan(s) {
			t.Errorf("%v is no span", s)
		}
	}
	for den := -3; den <= 40; den++ {
		for num := -3; num <= 90; num++ {
			want := den >= 1 && num >= 0 && big.NewRat(int64(num), int64(den)).Denom().Int64() == int64(den)
			if impl.IsSpan(span(num, den)) != want {
				t.Errorf("IsSpan of %d/%d is not %v", num, den, want)
			}
		}
	}
}

func TestMakeSpan(t *testing.T) {
	sizes := []int{0, 1, 2, 7, 143, 9999, 10000, 10001, 999999, 1000000, 1000001, 10000000000, 999999999989, maxFraction - 1, maxFraction}
	for _, num := range sizes {
		for _, den := range sizes[1:] {
			got, ok := impl.MakeSpan(num, den)
			wantSpan(t, fmt.Sprint("MakeSpan ", num, den), got, ok, big.NewRat(int64(num), int64(den)))
		}
	}
	for _, c := range []struct {
		num, den int
		want     impl.Span
	}{
		{7, 4, span(7, 4)}, {6, 8, span(3, 4)}, {8, 4, span(2, 1)}, {0, 9, span(0, 1)}, {0, maxFraction, span(0, 1)}, {maxFraction, maxFraction, span(1, 1)},
		{1000000, 1, span(1000000, 1)}, {maxFraction, 1000000, span(1000000, 1)}, {1, 10000, span(1, 10000)}, {100000000, maxFraction, span(1, 10000)},
		{1000000, 9999, span(1000000, 9999)},
	} {
		got, ok := impl.MakeSpan(c.num, c.den)
		wantResult(t, fmt.Sprint("MakeSpan ", c.num, c.den), got, ok, c.want, true)
	}
	for _, c := range [][2]int{
		{1000001, 1}, {1, 10001}, {1000001, 10000}, {1, 0}, {0, 0}, {1, -1}, {-1, 1}, {-1, -1}, {0, -1}, {maxFraction + 1, 1}, {1, maxFraction + 1}, {0, maxFraction + 1},
		{maxFraction + 1, maxFraction + 1}, {2 * maxFraction, maxFraction}, {maxFraction + 1, 99990001}, {99990001, maxFraction + 1}, {math.MaxInt, math.MaxInt}, {math.MinInt, 1}, {1, math.MinInt}, {math.MinInt, math.MinInt},
	} {
		got, ok := impl.MakeSpan(c[0], c[1])
		wantFailure(t, fmt.Sprint("MakeSpan ", c), got, ok)
	}
}

// common is an independent CommonSpan: if a / b is x / y in lowest terms, y times a is x times b, and nothing less is.
func common(a impl.Span, b impl.Span) *big.Rat {
	if a.Num == 0 || b.Num == 0 {
		return nil
	}
	times := new(big.Rat).Quo(ratOfSpan(a), ratOfSpan(b)).Denom()
	return new(big.Rat).Mul(ratOfSpan(a), new(big.Rat).SetInt(times))
}

func TestSpansTogether(t *testing.T) {
	for _, a := range someSpans() {
		for _, b := range someSpans() {
			sum, ok := impl.AddSpans(a, b)
			wantSpan(t, fmt.Sprint("AddSpans ", a, b), sum, ok, new(big.Rat).Add(ratOfSpan(a), ratOfSpan(b)))
			order, ok := impl.CompareSpans(a, b)
			wantResult(t, fmt.Sprint("CompareSpans ", a, b), order, ok, ratOfSpan(a).Cmp(ratOfSpan(b)), true)
			least, ok := impl.CommonSpan(a, b)
			wantSpan(t, fmt.Sprint("CommonSpan ", a, b), least, ok, common(a, b))
		}
	}
}

func TestSumsOfSpansAtTheLimits(t *testing.T) {
	for _, c := range []struct{ a, b, want impl.Span }{
		{span(999999, 1), span(1, 1), span(1000000, 1)}, {span(1000000, 1), span(0, 1), span(1000000, 1)}, {span(0, 1), span(0, 1), span(0, 1)},
		{span(333333, 1), span(1, 3), span(1000000, 3)}, {span(1, 16), span(1, 625), span(641, 10000)}, {span(3, 4), span(1, 2), span(5, 4)}, {span(1, 2), span(1, 2), span(1, 1)},
		{span(1, 10000), span(1, 10000), span(1, 5000)},
	} {
		sum, ok := impl.AddSpans(c.a, c.b)
		wantResult(t, fmt.Sprint("AddSpans ", c.a, c.b), sum, ok, c.want, true)
	}
	for _, c := range [][2]impl.Span{
		{span(1000000, 1), span(1, 1)}, {span(500000, 1), span(500001, 1)}, {span(333333, 1), span(2, 3)}, {span(1, 73), span(1, 137)}, {span(1, 10000), span(1, 3)},
		{span(999999, 1), span(9999, 10000)},
	} {
		sum, ok := impl.AddSpans(c[0], c[1])
		wantFailure(t, fmt.Sprint("AddSpans ", c), sum, ok)
	}
}

// TestCommonSpan looks for the least span by trying all numbers of times.
func TestCommonSpan(t *testing.T) {
	for _, a := range someSpans()[9:] {
		for _, b := range someSpans()[9:] {
			if a.Num == 0 || b.Num == 0 {
				continue
			}
			want := ratOfSpan(a)
			for !new(big.Rat).Quo(want, ratOfSpan(b)).IsInt() {
				want.Add(want, ratOfSpan(a))
			}
			got, ok := impl.CommonSpan(a, b)
			wantSpan(t, fmt.Sprint("CommonSpan ", a, b), got, ok, want)
		}
	}
	for _, c := range []struct{ a, b, want impl.Span }{
		{span(3, 2), span(5, 2), span(15, 2)}, {span(64, 1), span(15625, 1), span(1000000, 1)}, {span(64, 1), span(15625, 9999), span(1000000, 1)},
		{span(64, 10000/16), span(15625, 4), span(1000000, 1)}, {span(1, 10000), span(1, 10000), span(1, 10000)}, {span(1000000, 1), span(1000000, 1), span(1000000, 1)},
		{span(1000000, 1), span(1, 10000), span(1000000, 1)}, {span(1, 4), span(1, 6), span(1, 2)}, {span(2, 3), span(4, 3), span(4, 3)},
	} {
		got, ok := impl.CommonSpan(c.a, c.b)
		wantResult(t, fmt.Sprint("CommonSpan ", c.a, c.b), got, ok, c.want, true)
	}
	for _, c := range [][2]impl.Span{
		{span(101, 1), span(9901, 1)}, {span(999999, 1), span(1000000, 1)}, {span(0, 1), span(1, 2)}, {span(1, 2), span(0, 1)}, {span(0, 1), span(0, 1)},
	} {
		got, ok := impl.CommonSpan(c[0], c[1])
		wantFailure(t, fmt.Sprint("CommonSpan ", c), got, ok)
	}
}

func TestNoSpans(t *testing.T) {
	good := clock(1, 2, 73, 72)
	for _, bad := range noSpans {
		for _, pair := range [][2]impl.Span{{bad, span(1, 2)}, {span(1, 1), bad}, {span(0, 1), bad}, {bad, bad}} {
			sum, ok := impl.AddSpans(pair[0], pair[1])
			wantFailure(t, fmt.Sprint("AddSpans ", pair), sum, ok)
			order, ok := impl.CompareSpans(pair[0], pair[1])
			wantFailure(t, fmt.Sprint("CompareSpans ", pair), order, ok)
			least, ok := impl.CommonSpan(pair[0], pair[1])
			wantFailure(t, fmt.Sprint("CommonSpan ", pair), least, ok)
		}
		shown, ok := impl.ShownAfter(good, bad)
		wantFailure(t, fmt.Sprint("ShownAfter ", bad), shown, ok)
		ahead, ok := impl.AheadAfter(good, bad)
		wantFailure(t, fmt.Sprint("AheadAfter ", bad), ahead, ok)
		told, ok := impl.ClockOfReadings(turn(0, 1), bad, turn(1, 2))
		wantFailure(t, fmt.Sprint("ClockOfReadings ", bad), told, ok)
		set, ok := impl.SetRight(good, bad)
		wantFailure(t, fmt.Sprint("SetRight ", bad), set, ok)
		text, ok := impl.SpanText(bad)
		wantFailure(t, fmt.Sprint("SpanText ", bad), text, ok)
	}
}

func TestIsClock(t *testing.T) {
	for _, c := range append(someClocks(), clock(1, 1000, 1, 1), clock(0, 1, 1000, 1), clock(0, 1, 1, 1000), clock(998, 999, 1000, 999), clock(0, 1, 999, 1000)) {
		if !impl.IsClock(c) {
			t.Errorf("%v is a clock", c)
		}
	}
	for _, c := range noClocks() {
		if impl.IsClock(c) {
			t.Errorf("%v is no clock", c)
		}
	}
	for num := -3; num <= 30; num++ {
		for den := -3; den <= 30; den++ {
			want := num >= 1 && den >= 1 && big.NewRat(int64(num), int64(den)).Num().Int64() == int64(num)
			if impl.IsClock(clock(1, 3, num, den)) != want {
				t.Errorf("IsClock of the rate %d/%d is not %v", num, den, want)
			}
		}
	}
}

func TestNoClocks(t *testing.T) {
	good := clock(1, 2, 71, 72)
	for _, bad := range noClocks() {
		for _, s := range []impl.Span{span(0, 1), span(1, 2)} {
			shown, ok := impl.ShownAfter(bad, s)
			wantFailure(t, fmt.Sprint("ShownAfter ", bad, s), shown, ok)
			ahead, ok := impl.AheadAfter(bad, s)
			wantFailure(t, fmt.Sprint("AheadAfter ", bad, s), ahead, ok)
			set, ok := impl.SetRight(bad, s)
			wantFailure(t, fmt.Sprint("SetRight ", bad, s), set, ok)
		}
		every, ok := impl.RightEvery(bad)
		wantFailure(t, fmt.Sprint("RightEvery ", bad), every, ok)
		first, ok := impl.FirstRight(bad)
		wantFailure(t, fmt.Sprint("FirstRight ", bad), first, ok)
		shown, ok := impl.FirstShown(bad, turn(1, 2))
		wantFailure(t, fmt.Sprint("FirstShown ", bad), shown, ok)
		for _, pair := range [][2]impl.Clock{{bad, good}, {good, bad}, {bad, bad}} {
			every, ok := impl.AgreeEvery(pair[0], pair[1])
			wantFailure(t, fmt.Sprint("AgreeEvery ", pair), every, ok)
			first, ok := impl.FirstAgree(pair[0], pair[1])
			wantFailure(t, fmt.Sprint("FirstAgree ", pair), first, ok)
		}
	}
	for _, bad := range noTurns {
		shown, ok := impl.FirstShown(good, bad)
		wantFailure(t, fmt.Sprint("FirstShown ", bad), shown, ok)
		told, ok := impl.ClockOfReadings(bad, span(1, 2), turn(1, 2))
		wantFailure(t, fmt.Sprint("ClockOfReadings first ", bad), told, ok)
		told, ok = impl.ClockOfReadings(turn(0, 1), span(1, 2), bad)
		wantFailure(t, fmt.Sprint("ClockOfReadings second ", bad), told, ok)
	}
}

func TestShownAndAheadAfter(t *testing.T) {
	for _, c := range someClocks() {
		for _, s := range someSpans() {
			what, behind := fmt.Sprint(c, s), ratOfSpan(s)
			shown, ok := impl.ShownAfter(c, s)
			wantTurn(t, "ShownAfter "+what, shown, ok, shows(c, behind))
			ahead, ok := impl.AheadAfter(c, s)
			wantTurn(t, "AheadAfter "+what, ahead, ok, new(big.Rat).Sub(shows(c, behind), behind))
		}
		shown, ok := impl.ShownAfter(c, span(0, 1))
		wantResult(t, fmt.Sprint("ShownAfter the span 0 ", c), shown, ok, c.Start, true)
		ahead, ok := impl.AheadAfter(c, span(0, 1))
		wantResult(t, fmt.Sprint("AheadAfter the span 0 ", c), ahead, ok, c.Start, true)
	}
}

func TestShownAndAheadAtTheLimits(t *testing.T) {
	for _, c := range []struct {
		why     string
		c       impl.Clock
		s       impl.Span
		shown   impl.Turn
		shownOk bool
		ahead   impl.Turn
		aheadOk bool
	}{
		{"a right clock", clock(0, 1, 1, 1), span(7, 4), turn(3, 4), true, turn(0, 1), true},
		{"a clock that is never right", clock(1, 3, 1, 1), span(7, 4), turn(1, 12), true, turn(1, 3), true},
		{"ten minutes in twelve hours", clock(0, 1, 73, 72), span(1, 1), turn(1, 72), true, turn(1, 72), true},
		{"a clock that loses", clock(0, 1, 71, 72), span(1, 1), turn(71, 72), true, turn(71, 72), true},
		{"both with a Den of just MaxDen", clock(0, 1, 1, 1000), span(1, 1000), turn(1, 1000000), true, turn(999001, 1000000), true},
		{"both with a Den of 1000001", clock(0, 1, 1, 101), span(1, 9901), impl.Turn{}, false, impl.Turn{}, false},
		{"only what is shown is no turn", clock(0, 1, 201, 101), span(1, 10000), impl.Turn{}, false, turn(1, 10100), true},
		{"only by how much it is ahead is no turn", clock(0, 1, 100, 101), span(1, 10000), turn(1, 10100), true, impl.Turn{}, false},
		{"the greatest numbers", clock(999, 1000, 1000, 1), span(1000000, 1), turn(999, 1000), true, turn(999, 1000), true},
		{"the greatest numbers in parts", clock(998, 999, 1000, 999), span(1000000, 9997), impl.Turn{}, false, impl.Turn{}, false},
	} {
		shown, ok := impl.ShownAfter(c.c, c.s)
		wantResult(t, "shown: "+c.why, shown, ok, c.shown, c.shownOk)
		ahead, ok := impl.AheadAfter(c.c, c.s)
		wantResult(t, "ahead: "+c.why, ahead, ok, c.ahead, c.aheadOk)
	}
}

func TestRightEveryAndFirstRight(t *testing.T) {
	right := clock(0, 1, 1, 1)
	for _, c := range someClocks() {
		every, ok := impl.RightEvery(c)
		wantSpan(t, fmt.Sprint("RightEvery ", c), every, ok, firstAgree(clock(0, 1, c.Num, c.Den), right))
		if ok != (c.Num != c.Den) {
			t.Error("RightEvery", c, ok)
		}
		first, ok := impl.FirstRight(c)
		wantSpan(t, fmt.Sprint("FirstRight ", c), first, ok, firstAgree(c, right))
		if ok && !isRight(c, ratOfSpan(first)) {
			t.Error("it is not right", c, first)
		}
	}
	for _, c := range []impl.Clock{right, clock(1, 2, 1, 1), clock(999, 1000, 1, 1)} {
		every, ok := impl.RightEvery(c)
		wantFailure(t, fmt.Sprint("RightEvery with the rate 1 ", c), every, ok)
		first, ok := impl.FirstRight(c)
		wantFailure(t, fmt.Sprint("FirstRight with the rate 1 ", c), first, ok)
	}
}

func TestFirstRightAtTheLimits(t *testing.T) {
	for _, c := range []struct {
		why   string
		clock impl.Clock
		first impl.Span
		ok    bool
	}{
		{"right at first and gains", clock(0, 1, 73, 72), span(72, 1), true},
		{"right at first and loses", clock(0, 1, 71, 72), span(72, 1), true},
		{"a third ahead, and gains", clock(1, 3, 73, 72), span(48, 1), true},
		{"a third ahead, and loses", clock(1, 3, 71, 72), span(24, 1), true},
		{"a Den of just MaxPart", clock(999, 1000, 13, 3), span(3, 10000), true},
		{"a Den of just MaxPart for one that loses", clock(1, 1000, 1, 11), span(11, 10000), true},
		{"the least rate", clock(999, 1000, 1, 1000), span(1, 1), true},
		{"the greatest Num", clock(999, 1000, 999, 1000), span(999, 1), true},
		{"a Den of 10001, though with more turns it would be one of 137", clock(136, 137, 74, 1), impl.Span{}, false},
		{"a Den of 10001 for one that loses", clock(1, 137, 1, 74), impl.Span{}, false},
	} {
		first, ok := impl.FirstRight(c.clock)
		wantResult(t, c.why, first, ok, c.first, c.ok)
	}
}

// TestRightAtNoOtherTimes tries all spans behind which a clock may be right, as any such span is a whole number of steps.
func TestRightAtNoOtherTimes(t *testing.T) {
	for _, c := range smallClocks() {
		gain := max(c.Num-c.Den, c.Den-c.Num)
		if gain == 0 {
			continue
		}
		first, firstOk := impl.FirstRight(c)
		every, everyOk := impl.RightEvery(c)
		again, againOk := impl.AddSpans(first, every)
		if !firstOk || !everyOk || !againOk {
			t.Error("FirstRight and RightEvery of", c, firstOk, everyOk, againOk)
			continue
		}
		for number := int64(1); ; number++ {
			s := big.NewRat(number, int64(c.Start.Den*gain))
			if s.Cmp(ratOfSpan(again)) > 0 {
				break
			}
			told := s.Cmp(ratOfSpan(first)) == 0 || s.Cmp(ratOfSpan(again)) == 0
			if isRight(c, s) != told {
				t.Errorf("%v is right behind %v: %v, told are %v and %v", c, s, !told, first, again)
			}
			ahead, ok := impl.AheadAfter(c, span(int(s.Num().Int64()), int(s.Denom().Int64())))
			wantTurn(t, fmt.Sprint("AheadAfter ", c, s), ahead, ok, new(big.Rat).Sub(shows(c, s), s))
		}
	}
}

func smallClocks() []impl.Clock {
	var list []impl.Clock
	for _, start := range []impl.Turn{turn(0, 1), turn(1, 2), turn(1, 3), turn(2, 3), turn(3, 4), turn(1, 5), turn(5, 12)} {
		for num := 1; num <= 7; num++ {
			for den := 1; den <= 7; den++ {
				if c := (impl.Clock{Start: start, Num: num, Den: den}); big.NewRat(int64(num), int64(den)).Denom().Int64() == int64(den) {
					list = append(list, c)
				}
			}
		}
	}
	return list
}

func TestFirstShown(t *testing.T) {
	for _, c := range append(someClocks(), smallClocks()...) {
		for _, x := range []impl.Turn{turn(0, 1), turn(1, 2), turn(2, 3), turn(1, 12), turn(999, 1000), turn(1, 997), turn(1, 1000000), turn(999982, 999983)} {
			way := partOf(new(big.Rat).Sub(ratOf(x), ratOf(c.Start)))
			s, ok := impl.FirstShown(c, x)
			wantSpan(t, fmt.Sprint("FirstShown ", c, x), s, ok, way.Quo(way, rateOf(c)))
			if ok && shows(c, ratOfSpan(s)).Cmp(ratOf(x)) != 0 {
				t.Error("it is not shown", c, x, s)
			}
		}
		s, ok := impl.FirstShown(c, c.Start)
		wantResult(t, fmt.Sprint("FirstShown of the Start ", c), s, ok, span(0, 1), true)
	}
	for _, c := range []struct {
		why  string
		c    impl.Clock
		t    impl.Turn
		want impl.Span
		ok   bool
	}{
		{"a clock that is right always", clock(0, 1, 1, 1), turn(3, 4), span(3, 4), true},
		{"around the top", clock(3, 4, 1, 2), turn(1, 4), span(1, 1), true},
		{"just behind the turn", clock(1, 2, 1, 1), turn(499, 1000), span(999, 1000), true},
		{"a Den of just MaxPart", clock(0, 1, 10, 1), turn(1, 1000), span(1, 10000), true},
		{"a Den of 10001", clock(0, 1, 73, 1), turn(1, 137), impl.Span{}, false},
		{"a Num of just MaxSpan", clock(0, 1, 1, 1000), turn(1000, 1001), span(1000000, 1001), true},
		{"a Num of 1000001", clock(0, 1, 1, 101), turn(9901, 9902), impl.Span{}, false},
		{"a turn with the greatest Den", clock(0, 1, 1, 1000), turn(1, 1000000), span(1, 1000), true},
		{"a turn and a Start with great Dens", clock(998, 999, 1000, 1), turn(1, 999983), impl.Span{}, false},
	} {
		s, ok := impl.FirstShown(c.c, c.t)
		wantResult(t, c.why, s, ok, c.want, c.ok)
	}
}

func TestAgreeEveryAndFirstAgree(t *testing.T) {
	list := append(someClocks(), smallClocks()[:40]...)
	for _, a := range list {
		for _, b := range list {
			what := fmt.Sprint(a, b)
			every, ok := impl.AgreeEvery(a, b)
			wantSpan(t, "AgreeEvery "+what, every, ok, firstAgree(clock(0, 1, a.Num, a.Den), clock(0, 1, b.Num, b.Den)))
			first, ok := impl.FirstAgree(a, b)
			wantSpan(t, "FirstAgree "+what, first, ok, firstAgree(a, b))
			if ok && shows(a, ratOfSpan(first)).Cmp(shows(b, ratOfSpan(first))) != 0 {
				t.Error("they do not agree", what, first)
			}
		}
	}
}

func TestClocksOfOneRate(t *testing.T) {
	for _, pair := range [][2]impl.Clock{
		{clock(0, 1, 73, 72), clock(0, 1, 73, 72)}, {clock(1, 2, 1, 1), clock(1, 2, 1, 1)}, {clock(0, 1, 1, 1), clock(1, 2, 1, 1)}, {clock(1, 3, 2, 5), clock(2, 3, 2, 5)},
	} {
		every, ok := impl.AgreeEvery(pair[0], pair[1])
		wantFailure(t, fmt.Sprint("AgreeEvery ", pair), every, ok)
		first, ok := impl.FirstAgree(pair[0], pair[1])
		wantFailure(t, fmt.Sprint("FirstAgree ", pair), first, ok)
	}
}

func TestAgreeAtTheLimits(t *testing.T) {
	for _, c := range []struct {
		why     string
		a, b    impl.Clock
		every   impl.Span
		everyOk bool
		first   impl.Span
		firstOk bool
	}{
		{"one that gains and one that loses", clock(0, 1, 73, 72), clock(0, 1, 71, 72), span(36, 1), true, span(36, 1), true},
		{"the fast one is a third ahead", clock(1, 3, 73, 72), clock(0, 1, 71, 72), span(36, 1), true, span(24, 1), true},
		{"the slow one is a third ahead", clock(0, 1, 73, 72), clock(1, 3, 71, 72), span(36, 1), true, span(12, 1), true},
		{"rates of one Den alone", clock(1, 2, 1, 3), clock(0, 1, 2, 3), span(3, 1), true, span(3, 2), true},
		{"rates of one Num alone", clock(0, 1, 3, 2), clock(0, 1, 3, 4), span(4, 3), true, span(4, 3), true},
		{"Dens of just MaxPart", clock(0, 1, 1000, 1), clock(0, 1, 1000, 11), span(11, 10000), true, span(11, 10000), true},
		{"Dens of 10001", clock(0, 1, 1000, 1), clock(0, 1, 999, 11), impl.Span{}, false, impl.Span{}, false},
		{"a Den that is too great at every time but the first", clock(1, 1000, 1000, 1), clock(0, 1, 1, 1000), impl.Span{}, false, span(1, 1001), true},
		{"a Den that is too great at the first time alone", clock(1, 137, 1, 1), clock(0, 1, 74, 1), span(1, 73), true, impl.Span{}, false},
		{"the greatest Num of AgreeEvery", clock(0, 1, 1, 999), clock(0, 1, 1, 1000), span(999000, 1), true, span(999000, 1), true},
		{"a Num of just MaxSpan", clock(5, 7, 1, 1), clock(102, 143, 999, 1000), span(1000, 1), true, span(1000000, 1001), true},
		{"a Num of 1000001", clock(59, 78, 1, 1), clock(96, 127, 100, 101), span(101, 1), true, impl.Span{}, false},
	} {
		for _, pair := range [][2]impl.Clock{{c.a, c.b}, {c.b, c.a}} {
			every, ok := impl.AgreeEvery(pair[0], pair[1])
			wantResult(t, "every: "+c.why, every, ok, c.every, c.everyOk)
			first, ok := impl.FirstAgree(pair[0], pair[1])
			wantResult(t, "first: "+c.why, first, ok, c.first, c.firstOk)
		}
	}
}

// TestAgreeAtNoOtherTimes tries all spans behind which two clocks may agree, for each clock with some of the others.
func TestAgreeAtNoOtherTimes(t *testing.T) {
	list := smallClocks()
	for i, a := range list {
		for j := i % 29; j < len(list); j += 29 {
			b := list[j]
			gain := a.Num*b.Den - b.Num*a.Den
			if gain == 0 {
				continue
			}
			first, firstOk := impl.FirstAgree(a, b)
			every, everyOk := impl.AgreeEvery(a, b)
			again, againOk := impl.AddSpans(first, every)
			if !firstOk || !everyOk || !againOk {
				t.Error("FirstAgree and AgreeEvery of", a, b, firstOk, everyOk, againOk)
				continue
			}
			checkAgreements(t, a, b, int64(a.Start.Den*b.Start.Den*max(gain, -gain)), []impl.Span{first, again})
		}
	}
}

// checkAgreements expects two clocks to agree, in steps up to the last told time, at the told times alone.
func checkAgreements(t *testing.T, a impl.Clock, b impl.Clock, stepsOfTurn int64, told []impl.Span) {
	t.Helper()
	var found []impl.Span
	for number := int64(1); ; number++ {
		s := big.NewRat(number, stepsOfTurn)
		if s.Cmp(ratOfSpan(told[len(told)-1])) > 0 {
			break
		}
		// Whatever they show, they agree if the one is ahead of the other by whole turns.
		apart := new(big.Rat).Mul(new(big.Rat).Sub(rateOf(a), rateOf(b)), s)
		apart.Add(apart, ratOf(a.Start)).Sub(apart, ratOf(b.Start))
		if apart.IsInt() {
			found = append(found, span(int(s.Num().Int64()), int(s.Denom().Int64())))
		}
	}
	wantList(t, fmt.Sprint("agreements of ", a, b), found, true, told, true)
}

func TestClockOfReadings(t *testing.T) {
	turns := []impl.Turn{turn(0, 1), turn(1, 2), turn(3, 4), turn(5, 12), turn(1, 1000), turn(999, 1000), turn(1, 1001), turn(1, 1000000), turn(1, 997), turn(999982, 999983)}
	for _, first := range turns {
		for _, second := range turns {
			for _, s := range someSpans() {
				if s.Num == 0 {
					continue
				}
				rate := partOf(new(big.Rat).Sub(ratOf(second), ratOf(first)))
				rate.Quo(rate, ratOfSpan(s))
				var want impl.Clock
				limit := big.NewInt(impl.MaxRate)
				wantOk := first.Den <= 1000 && rate.Sign() > 0 && rate.Num().Cmp(limit) <= 0 && rate.Denom().Cmp(limit) <= 0
				if wantOk {
					want = impl.Clock{Start: first, Num: int(rate.Num().Int64()), Den: int(rate.Denom().Int64())}
				}
				got, ok := impl.ClockOfReadings(first, s, second)
				wantResult(t, fmt.Sprint("ClockOfReadings ", first, s, second), got, ok, want, wantOk)
			}
		}
	}
}

func TestClockOfReadingsAtTheLimits(t *testing.T) {
	for _, c := range []struct {
		why    string
		first  impl.Turn
		s      impl.Span
		second impl.Turn
		want   impl.Clock
		ok     bool
	}{
		{"a clock that is right always", turn(0, 1), span(3, 4), turn(3, 4), clock(0, 1, 1, 1), true},
		{"around the top", turn(3, 4), span(1, 1), turn(1, 4), clock(3, 4, 1, 2), true},
		{"less than a turn for many", turn(1, 2), span(36, 1), turn(0, 1), clock(1, 2, 1, 72), true},
		{"nearly a turn", turn(1, 1000), span(999, 1000), turn(0, 1), clock(1, 1000, 1, 1), true},
		{"the same reading", turn(1, 2), span(1, 1), turn(1, 2), impl.Clock{}, false},
		{"the same reading at the top", turn(0, 1), span(1, 1), turn(0, 1), impl.Clock{}, false},
		{"the span 0", turn(0, 1), span(0, 1), turn(1, 2), impl.Clock{}, false},
		{"the span 0 and the same reading", turn(0, 1), span(0, 1), turn(0, 1), impl.Clock{}, false},
		{"the greatest rate", turn(0, 1), span(1, 2000), turn(1, 2), clock(0, 1, 1000, 1), true},
		{"the rate 1001", turn(0, 1), span(1, 2002), turn(1, 2), impl.Clock{}, false},
		{"the least rate", turn(0, 1), span(500, 1), turn(1, 2), clock(0, 1, 1, 1000), true},
		{"the rate 1/1001", turn(0, 1), span(1001, 2), turn(1, 2), impl.Clock{}, false},
		{"a Start with a Den of 1000", turn(1, 1000), span(1, 1000), turn(1, 500), clock(1, 1000, 1, 1), true},
		{"a Start with a Den of 1001", turn(1, 1001), span(1, 1001), turn(2, 1001), impl.Clock{}, false},
		{"a second reading with a great Den", turn(0, 1), span(1, 1000), turn(1, 1000000), clock(0, 1, 1, 1000), true},
		{"great Dens", turn(999982, 999983), span(1000000, 9999), turn(1, 1000000), impl.Clock{}, false},
	} {
		got, ok := impl.ClockOfReadings(c.first, c.s, c.second)
		wantResult(t, c.why, got, ok, c.want, c.ok)
	}
}

func TestSetRight(t *testing.T) {
	for _, c := range someClocks() {
		for _, s := range someSpans() {
			start, fits := turnOfRat(new(big.Rat).Sub(ratOfSpan(s), new(big.Rat).Mul(rateOf(c), ratOfSpan(s))))
			want := impl.Clock{Start: start, Num: c.Num, Den: c.Den}
			if fits = fits && start.Den <= 1000; !fits {
				want = impl.Clock{}
			}
			set, ok := impl.SetRight(c, s)
			wantResult(t, fmt.Sprint("SetRight ", c, s), set, ok, want, fits)
			if ok && !isRight(set, ratOfSpan(s)) {
				t.Error("it is not right", c, s, set)
			}
		}
		set, ok := impl.SetRight(c, span(0, 1))
		wantResult(t, fmt.Sprint("SetRight for the span 0 ", c), set, ok, clock(0, 1, c.Num, c.Den), true)
	}
	for _, c := range []struct {
		why   string
		clock impl.Clock
		s     impl.Span
		want  impl.Clock
		ok    bool
	}{
		{"one that gains", clock(0, 1, 73, 72), span(36, 1), clock(1, 2, 73, 72), true},
		{"one that gains a sixth", clock(0, 1, 73, 72), span(12, 1), clock(5, 6, 73, 72), true},
		{"one that loses a sixth", clock(0, 1, 71, 72), span(12, 1), clock(1, 6, 71, 72), true},
		{"one that is right then", clock(1, 2, 73, 72), span(36, 1), clock(1, 2, 73, 72), true},
		{"one that is never right", clock(1, 3, 1, 1), span(5, 7), clock(0, 1, 1, 1), true},
		{"a Den of just MaxRate", clock(0, 1, 999, 1000), span(1, 1), clock(1, 1000, 999, 1000), true},
		{"a Den of 1001", clock(0, 1, 1, 7), span(1, 143), impl.Clock{}, false},
		{"the greatest numbers", clock(1, 2, 1000, 1), span(1000000, 1), clock(0, 1, 1000, 1), true},
	} {
		set, ok := impl.SetRight(c.clock, c.s)
		wantResult(t, c.why, set, ok, c.want, c.ok)
	}
}

func TestSpanTexts(t *testing.T) {
	for _, s := range someSpans() {
		text, ok := impl.SpanText(s)
		wantResult(t, fmt.Sprint("SpanText ", s), text, ok, ratOfSpan(s).String(), true)
		back, ok := impl.ParseSpan(text)
		wantResult(t, "ParseSpan "+text, back, ok, s, true)
	}
	for _, c := range []struct {
		s    impl.Span
		text string
	}{{span(0, 1), "0/1"}, {span(36, 1), "36/1"}, {span(1000000, 1), "1000000/1"}, {span(1, 10000), "1/10000"}, {span(1000000, 9999), "1000000/9999"}} {
		text, ok := impl.SpanText(c.s)
		wantResult(t, fmt.Sprint("SpanText ", c.s), text, ok, c.text, true)
		s, ok := impl.ParseSpan(c.text)
		wantResult(t, "ParseSpan "+c.text, s, ok, c.s, true)
	}
	for _, s := range []string{
		"", "/", "1", "1/", "/1", "//", "1//2", "1/2/", "/1/2", "1/2/3", "1/0", "0/0", "0/2", "2/4", "4/2", "00/1", "01/2", "1/02", "0/01", "+1/2", "1/+2", "-1/2", "1/-2", "-0/1", "-1/-2",
		" 1/2", "1/2 ", "1 /2", "1/ 2", "1/2\n", "1/2\x00", "1.0/2", "1e1/3", "0x1/2", "1_0/3", "1:2", "1+2", "a/b", "½", "١/٢", "1000001/1", "1/10001", "1000000/10000",
		"9223372036854775808/1", "1/9223372036854775808", "18446744073709551617/1", "1/18446744073709551617", "99999999999999999999999/1",
	} {
		got, ok := impl.ParseSpan(s)
		wantFailure(t, fmt.Sprintf("ParseSpan %q", s), got, ok)
	}
}

func TestExampleOfDrifts(t *testing.T) {
	gains := clock(0, 1, 73, 72)
	every, ok := impl.RightEvery(gains)
	wantResult(t, "RightEvery", every, ok, span(72, 1), true)
	later := clock(1, 2, 73, 72)
	first, ok := impl.FirstRight(later)
	wantResult(t, "FirstRight", first, ok, span(36, 1), true)
	every, ok = impl.RightEvery(later)
	wantResult(t, "RightEvery of the later one", every, ok, span(72, 1), true)
	every, ok = impl.AgreeEvery(gains, clock(0, 1, 71, 72))
	wantResult(t, "AgreeEvery", every, ok, span(36, 1), true)
	told, ok := impl.ClockOfReadings(turn(0, 1), span(1, 2), turn(3, 4))
	wantResult(t, "ClockOfReadings", told, ok, clock(0, 1, 3, 2), true)
	least, ok := impl.CommonSpan(span(3, 2), span(5, 2))
	wantResult(t, "CommonSpan", least, ok, span(15, 2), true)
}
