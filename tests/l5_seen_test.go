package tests

import (
	"fmt"
	"math/big"
	"slices"
	"testing"

	"loop.example/g01241/impl"
)

func seen(shortNum int, shortDen int, longNum int, longDen int) impl.Seen {
	return impl.Seen{Short: turn(shortNum, shortDen), Long: turn(longNum, longDen)}
}

func noSeen() []impl.Seen {
	list := []impl.Seen{{}}
	for _, bad := range noTurns {
		list = append(list, impl.Seen{Short: bad, Long: turn(0, 1)}, impl.Seen{Short: turn(0, 1), Long: bad}, impl.Seen{Short: bad, Long: bad})
	}
	return list
}

// longAt is an independent LongHand for turns of any Den.
func longAt(h int, t *big.Rat) *big.Rat {
	return partOf(timesRat(t, h))
}

func mirrorRat(r *big.Rat) *big.Rat {
	return partOf(new(big.Rat).Neg(r))
}

// tellsTime is an independent IsTrueSeen.
func tellsTime(h int, short *big.Rat, long *big.Rat) bool {
	return longAt(h, short).Cmp(long) == 0
}

// timesTold are the times of those of the ways to see hands, the short one first, that are true, increasing and each once.
func timesTold(h int, ways ...[2]*big.Rat) []impl.Turn {
	var rats []*big.Rat
	for _, way := range ways {
		if tellsTime(h, way[0], way[1]) {
			rats = append(rats, way[0])
		}
	}
	list, _ := listOfRats(rats)
	return list
}

// timesAtAngle is an independent TimesWithAngle for an angle of any Den.
func timesAtAngle(h int, angle *big.Rat) ([]impl.Turn, bool) {
	var rats []*big.Rat
	for whole := range h - 1 {
		r := new(big.Rat).Add(partOf(angle), big.NewRat(int64(whole), 1))
		rats = append(rats, r.Mul(r, big.NewRat(1, int64(h-1))))
	}
	return listOfRats(rats)
}

// turnsToSee is an independent TurnsOfDial.
func turnsToSee(h int, s impl.Seen) ([]impl.Turn, bool) {
	times, ok := timesAtAngle(h, new(big.Rat).Sub(ratOf(s.Long), ratOf(s.Short)))
	if !ok {
		return nil, false
	}
	var list []impl.Turn
	for _, time := range times {
		x, ok := turnOfRat(new(big.Rat).Sub(ratOf(s.Short), ratOf(time)))
		if !ok {
			return nil, false
		}
		list = append(list, x)
	}
	return list, true
}

// someSeen are true ones of a dial, these with the hands exchanged, in a mirror and with one hand moved, and all with parts
// of a few Dens.
func someSeen(h int) []impl.Seen {
	var list []impl.Seen
	for _, time := range append(someTurns(), turn(1, h*h-1), turn(h, h*h-1), turn(h*h-2, h*h-1)) {
		long, _ := turnOfRat(longAt(h, ratOf(time)))
		other, _ := turnOfRat(mirrorRat(ratOf(time)))
		list = append(list, impl.Seen{Short: time, Long: long}, impl.Seen{Short: long, Long: time}, impl.Seen{Short: other, Long: long}, impl.Seen{Short: time, Long: time})
	}
	for _, a := range smallTurns(8) {
		for _, b := range smallTurns(8) {
			list = append(list, impl.Seen{Short: a, Long: b})
		}
	}
	return list
}

// smallTurns are all turns with a Den of at most most.
func smallTurns(most int) []impl.Turn {
	return slices.DeleteFunc(someTurns(), func(x impl.Turn) bool { return x.Den > most })
}

func TestIsSeen(t *testing.T) {
	for _, a := range someTurns() {
		for _, s := range []impl.Seen{{Short: a, Long: a}, {Short: a, Long: turn(0, 1)}, {Short: turn(1, 1000000), Long: a}} {
			if !impl.IsSeen(s) {
				t.Errorf("%v is seen", s)
			}
		}
	}
	for _, s := range noSeen() {
		if impl.IsSeen(s) {
			t.Errorf("%v is not seen", s)
		}
	}
}

func TestSeenOf(t *testing.T) {
	everyDial(func(h int) {
		for _, time := range someTurns() {
			what := fmt.Sprintf("%v of %d hours", time, h)
			long, _ := turnOfRat(longAt(h, ratOf(time)))
			s, ok := impl.SeenOf(h, time)
			wantResult(t, "SeenOf "+what, s, ok, impl.Seen{Short: time, Long: long}, true)
			told, ok := impl.TimeSeen(h, s)
			wantResult(t, "TimeSeen of SeenOf "+what, told, ok, time, true)
		}
	})
}

func TestTrueSeen(t *testing.T) {
	everyDial(func(h int) {
		for _, s := range someSeen(h) {
			what := fmt.Sprintf("%v of %d hours", s, h)
			want := tellsTime(h, ratOf(s.Short), ratOf(s.Long))
			isTrue, ok := impl.IsTrueSeen(h, s)
			wantResult(t, "IsTrueSeen "+what, isTrue, ok, want, true)
			time, ok := impl.TimeSeen(h, s)
			if want {
				wantResult(t, "TimeSeen "+what, time, ok, s.Short, true)
			} else {
				wantFailure(t, "TimeSeen "+what, time, ok)
			}
		}
	})
}

func TestTrueSeenInTable(t *testing.T) {
	for _, c := range []struct {
		h    int
		s    impl.Seen
		want bool
	}{
		{12, seen(1, 4, 0, 1), true}, {12, seen(0, 1, 1, 4), false}, {12, seen(0, 1, 0, 1), true}, {12, seen(1, 2, 1, 2), false}, {12, seen(1, 2, 0, 1), true},
		{12, seen(1, 11, 1, 11), true}, {12, seen(1, 143, 12, 143), true}, {12, seen(12, 143, 1, 143), true}, {24, seen(1, 143, 12, 143), false},
		{2, seen(1, 3, 2, 3), true}, {2, seen(2, 3, 1, 3), true}, {3, seen(1, 2, 1, 2), true}, {24, seen(1, 1000000, 3, 125000), true},
		{24, seen(999999, 1000000, 124997, 125000), true}, {24, seen(999999, 1000000, 124997, 124999), false}, {2, seen(1, 999983, 2, 999983), true},
	} {
		what := fmt.Sprintf("IsTrueSeen %v of %d hours", c.s, c.h)
		isTrue, ok := impl.IsTrueSeen(c.h, c.s)
		wantResult(t, what, isTrue, ok, c.want, true)
	}
}

func TestExchangeAndMirrorSeen(t *testing.T) {
	for _, s := range someSeen(12) {
		what := fmt.Sprint(s)
		exchanged, ok := impl.ExchangeSeen(s)
		wantResult(t, "ExchangeSeen "+what, exchanged, ok, impl.Seen{Short: s.Long, Long: s.Short}, true)
		short, _ := turnOfRat(mirrorRat(ratOf(s.Short)))
		long, _ := turnOfRat(mirrorRat(ratOf(s.Long)))
		mirrored, ok := impl.MirrorSeen(s)
		wantResult(t, "MirrorSeen "+what, mirrored, ok, impl.Seen{Short: short, Long: long}, true)
		back, ok := impl.MirrorSeen(mirrored)
		wantResult(t, "the mirror of MirrorSeen "+what, back, ok, s, true)
	}
	for s, want := range map[impl.Seen]impl.Seen{
		seen(0, 1, 0, 1): seen(0, 1, 0, 1), seen(1, 2, 1, 2): seen(1, 2, 1, 2), seen(0, 1, 1, 3): seen(0, 1, 2, 3), seen(1, 4, 0, 1): seen(3, 4, 0, 1),
		seen(1, 1000000, 999999, 1000000): seen(999999, 1000000, 1, 1000000),
	} {
		mirrored, ok := impl.MirrorSeen(s)
		wantResult(t, fmt.Sprint("MirrorSeen ", s), mirrored, ok, want, true)
	}
}

func TestTurnSeen(t *testing.T) {
	for _, s := range someSeen(12) {
		for _, by := range append(smallTurns(5), turn(1, 1000), turn(1, 1001), turn(1, 999983), turn(999999, 1000000)) {
			short, shortOk := turnOfRat(new(big.Rat).Add(ratOf(s.Short), ratOf(by)))
			long, longOk := turnOfRat(new(big.Rat).Add(ratOf(s.Long), ratOf(by)))
			var want impl.Seen
			if shortOk && longOk {
				want = impl.Seen{Short: short, Long: long}
			}
			turned, ok := impl.TurnSeen(s, by)
			wantResult(t, fmt.Sprint("TurnSeen ", s, by), turned, ok, want, shortOk && longOk)
		}
		same, ok := impl.TurnSeen(s, turn(0, 1))
		wantResult(t, fmt.Sprint("turned by no part of a turn: ", s), same, ok, s, true)
	}
}

func TestTurnSeenAtTheLimits(t *testing.T) {
	for _, c := range []struct {
		s    impl.Seen
		by   impl.Turn
		want impl.Seen
	}{
		{seen(1, 64, 0, 1), turn(1, 15625), seen(15689, 1000000, 1, 15625)}, {seen(0, 1, 1, 64), turn(1, 15625), seen(1, 15625, 15689, 1000000)},
		{seen(1, 999, 1, 999), turn(1, 1001), seen(2000, 999999, 2000, 999999)}, {seen(3, 4, 1, 4), turn(3, 4), seen(1, 2, 0, 1)},
		{seen(999999, 1000000, 1, 1000000), turn(1, 1000000), seen(0, 1, 1, 500000)},
	} {
		turned, ok := impl.TurnSeen(c.s, c.by)
		wantResult(t, fmt.Sprint("TurnSeen ", c.s, c.by), turned, ok, c.want, true)
	}
	for _, c := range []struct {
		s  impl.Seen
		by impl.Turn
	}{
		{seen(1, 101, 0, 1), turn(1, 9901)}, {seen(0, 1, 1, 101), turn(1, 9901)}, {seen(1, 101, 1, 101), turn(1, 9901)},
		{seen(1, 2, 0, 1), turn(1, 999983)}, {seen(0, 1, 1, 1000000), turn(1, 3)},
	} {
		turned, ok := impl.TurnSeen(c.s, c.by)
		wantFailure(t, fmt.Sprint("TurnSeen ", c.s, c.by), turned, ok)
	}
}

func TestExchangedTime(t *testing.T) {
	everyDial(func(h int) {
		for _, time := range append(someTurns(), turn(1, h*h-1), turn(h*h-2, h*h-1), turn(1, h*h), turn(1, h*h-2)) {
			what := fmt.Sprintf("ExchangedTime %v of %d hours", time, h)
			long := longAt(h, ratOf(time))
			told, ok := impl.ExchangedTime(h, time)
			if tellsTime(h, long, ratOf(time)) {
				wantTurn(t, what, told, ok, long)
			} else {
				wantFailure(t, what, told, ok)
			}
		}
	})
	for _, c := range []struct {
		h          int
		time, want impl.Turn
	}{
		{12, turn(12, 143), turn(1, 143)}, {12, turn(0, 1), turn(0, 1)}, {12, turn(1, 11), turn(1, 11)}, {12, turn(1, 13), turn(12, 13)}, {2, turn(1, 3), turn(2, 3)},
		{2, turn(0, 1), turn(0, 1)}, {3, turn(1, 2), turn(1, 2)}, {24, turn(574, 575), turn(551, 575)},
	} {
		told, ok := impl.ExchangedTime(c.h, c.time)
		wantResult(t, fmt.Sprintf("ExchangedTime %v of %d hours", c.time, c.h), told, ok, c.want, true)
	}
}

// All turns with a Den that may divide h h - 1 are tried: those at which h h times as much is the same are exchanged.
func TestAllExchanged(t *testing.T) {
	everyDial(func(h int) {
		var want []impl.Turn
		for _, den := range []int64{1, int64(h - 1), int64(h + 1), int64(h*h - 1)} {
			for num := range den {
				r := big.NewRat(num, den)
				x, _ := turnOfRat(r)
				if tellsTime(h, longAt(h, r), r) {
					want = append(want, x)
				}
			}
		}
		slices.SortFunc(want, func(a impl.Turn, b impl.Turn) int { return ratOf(a).Cmp(ratOf(b)) })
		want = slices.Compact(want)
		got, ok := impl.AllExchanged(h)
		wantList(t, fmt.Sprintf("AllExchanged of %d hours", h), got, ok, want, true)
		if len(got) != h*h-1 {
			t.Errorf("%d times are exchanged of %d hours", len(got), h)
		}
		for _, time := range smallTurns(30) {
			_, isExchanged := impl.ExchangedTime(h, time)
			if slices.Contains(got, time) != isExchanged {
				t.Errorf("%v is exchanged of %d hours: %v", time, h, isExchanged)
			}
		}
	})
	got, ok := impl.AllExchanged(2)
	wantList(t, "AllExchanged of 2 hours", got, ok, []impl.Turn{turn(0, 1), turn(1, 3), turn(2, 3)}, true)
	got, ok = impl.AllExchanged(3)
	wantList(t, "AllExchanged of 3 hours", got, ok, []impl.Turn{turn(0, 1), turn(1, 8), turn(1, 4), turn(3, 8), turn(1, 2), turn(5, 8), turn(3, 4), turn(7, 8)}, true)
}

func TestUnsureTimesAreAsManyAsCounted(t *testing.T) {
	for h, want := range map[int]int{2: 2, 3: 6, 12: 132, 24: 552} {
		n, ok := impl.CountUnsure(h)
		wantResult(t, fmt.Sprintf("CountUnsure of %d hours", h), n, ok, want, true)
	}
	everyDial(func(h int) {
		times, _ := impl.AllExchanged(h)
		unsure, together := 0, 0
		for _, time := range times {
			other, ok := impl.ExchangedTime(h, time)
			back, backOk := impl.ExchangedTime(h, other)
			if !ok || !backOk || back != time {
				t.Errorf("%v of %d hours is exchanged with %v, and this with %v", time, h, other, back)
			}
			s, _ := impl.SeenOf(h, time)
			if other != time {
				unsure++
			}
			if s.Short == s.Long {
				together++
			}
			alike, ok := impl.TimesAlike(h, s)
			want, _ := listOfRats([]*big.Rat{ratOf(time), ratOf(other)})
			wantList(t, fmt.Sprintf("TimesAlike at %v of %d hours", time, h), alike, ok, want, true)
		}
		n, ok := impl.CountUnsure(h)
		wantResult(t, fmt.Sprintf("CountUnsure of %d hours", h), n, ok, unsure, true)
		wantResult(t, fmt.Sprintf("both hands in one place of %d hours", h), together, true, h-1, true)
	})
}

func TestTimesAlikeAndInGlass(t *testing.T) {
	everyDial(func(h int) {
		for _, s := range someSeen(h) {
			what := fmt.Sprintf("%v of %d hours", s, h)
			short, long := ratOf(s.Short), ratOf(s.Long)
			alike, ok := impl.TimesAlike(h, s)
			wantList(t, "TimesAlike "+what, alike, ok, timesTold(h, [2]*big.Rat{short, long}, [2]*big.Rat{long, short}), true)
			inGlass, ok := impl.TimesInGlass(h, s)
			wantList(t, "TimesInGlass "+what, inGlass, ok, timesTold(h, [2]*big.Rat{short, long}, [2]*big.Rat{mirrorRat(short), mirrorRat(long)}), true)
		}
	})
}

func TestTimesAlikeInTable(t *testing.T) {
	for _, c := range []struct {
		h    int
		s    impl.Seen
		want []impl.Turn
	}{
		{12, seen(1, 143, 12, 143), []impl.Turn{turn(1, 143), turn(12, 143)}}, {12, seen(12, 143, 1, 143), []impl.Turn{turn(1, 143), turn(12, 143)}},
		{12, seen(0, 1, 0, 1), []impl.Turn{turn(0, 1)}}, {12, seen(1, 11, 1, 11), []impl.Turn{turn(1, 11)}}, {12, seen(1, 4, 0, 1), []impl.Turn{turn(1, 4)}},
		{12, seen(0, 1, 1, 4), []impl.Turn{turn(1, 4)}}, {12, seen(1, 2, 1, 2), nil}, {12, seen(1, 4, 1, 3), nil}, {3, seen(1, 2, 1, 2), []impl.Turn{turn(1, 2)}},
		{2, seen(2, 3, 1, 3), []impl.Turn{turn(1, 3), turn(2, 3)}}, {24, seen(3, 125000, 1, 1000000), []impl.Turn{turn(1, 1000000)}},
	} {
		got, ok := impl.TimesAlike(c.h, c.s)
		wantList(t, fmt.Sprintf("TimesAlike %v of %d hours", c.s, c.h), got, ok, c.want, true)
	}
}

func TestTimesInGlassInTable(t *testing.T) {
	for _, c := range []struct {
		h    int
		s    impl.Seen
		want []impl.Turn
	}{
		{12, seen(1, 4, 0, 1), []impl.Turn{turn(1, 4), turn(3, 4)}}, {12, seen(3, 4, 0, 1), []impl.Turn{turn(1, 4), turn(3, 4)}}, {12, seen(0, 1, 0, 1), []impl.Turn{turn(0, 1)}},
		{12, seen(1, 2, 0, 1), []impl.Turn{turn(1, 2)}}, {3, seen(1, 2, 1, 2), []impl.Turn{turn(1, 2)}}, {12, seen(0, 1, 1, 4), nil}, {12, seen(1, 4, 1, 2), nil},
		{24, seen(1, 1000000, 3, 125000), []impl.Turn{turn(1, 1000000), turn(999999, 1000000)}},
	} {
		got, ok := impl.TimesInGlass(c.h, c.s)
		wantList(t, fmt.Sprintf("TimesInGlass %v of %d hours", c.s, c.h), got, ok, c.want, true)
	}
}

func TestTurnedDials(t *testing.T) {
	everyDial(func(h int) {
		for _, s := range someSeen(h) {
			what := fmt.Sprintf("%v of %d hours", s, h)
			want, wantOk := timesAtAngle(h, new(big.Rat).Sub(ratOf(s.Long), ratOf(s.Short)))
			times, ok := impl.TimesTurned(h, s)
			wantList(t, "TimesTurned "+what, times, ok, want, wantOk)
			want, wantOk = turnsToSee(h, s)
			turns, ok := impl.TurnsOfDial(h, s)
			wantList(t, "TurnsOfDial "+what, turns, ok, want, wantOk)
			checkTurned(t, h, s, times, turns)
		}
	})
}

// checkTurned turns the dial at each time by the turn that is told for it: that is what was seen.
func checkTurned(t *testing.T, h int, s impl.Seen, times []impl.Turn, turns []impl.Turn) {
	t.Helper()
	if len(turns) > 0 && (len(turns) != h-1 || len(times) != h-1) {
		t.Errorf("%v of %d hours: %d times, and turns of the dial %d", s, h, len(times), len(turns))
		return
	}
	for i, x := range turns {
		at, _ := impl.SeenOf(h, times[i])
		turned, ok := impl.TurnSeen(at, x)
		wantResult(t, fmt.Sprintf("%v of %d hours turned by %v", times[i], h, x), turned, ok, s, true)
	}
}

func TestTurnedDialsInTable(t *testing.T) {
	for _, c := range []struct {
		h            int
		s            impl.Seen
		times, turns []impl.Turn
	}{
		{2, seen(1, 4, 1, 2), []impl.Turn{turn(1, 4)}, []impl.Turn{turn(0, 1)}}, {2, seen(1, 4, 1, 4), []impl.Turn{turn(0, 1)}, []impl.Turn{turn(1, 4)}},
		{2, seen(1, 2, 1, 4), []impl.Turn{turn(3, 4)}, []impl.Turn{turn(3, 4)}}, {3, seen(0, 1, 0, 1), []impl.Turn{turn(0, 1), turn(1, 2)}, []impl.Turn{turn(0, 1), turn(1, 2)}},
		{4, seen(0, 1, 1, 2), []impl.Turn{turn(1, 6), turn(1, 2), turn(5, 6)}, []impl.Turn{turn(5, 6), turn(1, 2), turn(1, 6)}},
		{3, seen(1, 4, 3, 4), []impl.Turn{turn(1, 4), turn(3, 4)}, []impl.Turn{turn(0, 1), turn(1, 2)}},
	} {
		times, ok := impl.TimesTurned(c.h, c.s)
		wantList(t, fmt.Sprintf("TimesTurned %v of %d hours", c.s, c.h), times, ok, c.times, true)
		turns, ok := impl.TurnsOfDial(c.h, c.s)
		wantList(t, fmt.Sprintf("TurnsOfDial %v of %d hours", c.s, c.h), turns, ok, c.turns, true)
	}
}

// TimesTurned does not need the turns of the dial, but TurnsOfDial fails also if just a time has too great a Den.
func TestTurnedDialsAtTheLimits(t *testing.T) {
	for _, c := range []struct {
		h                int
		s                impl.Seen
		timesOk, turnsOk bool
	}{
		{3, seen(0, 1, 1, 500000), true, true}, {3, seen(1, 1000000, 1, 1000000), true, true}, {3, seen(0, 1, 1, 500001), false, false},
		{2, seen(1, 999983, 1, 2), false, false}, {2, seen(1, 2, 1, 999983), false, false}, {12, seen(1, 999983, 12, 999983), false, false},
		{12, seen(1, 999983, 1, 999983), true, false}, {12, seen(1, 90909, 1, 90909), true, true}, {12, seen(1, 90910, 1, 90910), true, false},
		{2, seen(1, 999983, 2, 999983), true, true}, {3, seen(1, 999999, 3, 999999), false, false}, {3, seen(1, 499999, 3, 499999), true, true}, {3, seen(1, 500001, 3, 500001), false, false},
		{2, seen(1, 1001, 1, 999), true, true}, {2, seen(1, 2991, 995, 988027), true, false}, {2, seen(1, 1000000, 999999, 1000000), true, true},
	} {
		what := fmt.Sprintf("%v of %d hours", c.s, c.h)
		times, ok := impl.TimesTurned(c.h, c.s)
		if ok != c.timesOk || ok != (len(times) == c.h-1) || !ok && len(times) > 0 {
			t.Errorf("TimesTurned %s: got %v, %v, want %v", what, times, ok, c.timesOk)
		}
		turns, ok := impl.TurnsOfDial(c.h, c.s)
		if ok != c.turnsOk || ok != (len(turns) == c.h-1) || !ok && len(turns) > 0 {
			t.Errorf("TurnsOfDial %s: got %v, %v, want %v", what, turns, ok, c.turnsOk)
		}
	}
}

func TestTimesWithAngle(t *testing.T) {
	everyDial(func(h int) {
		for _, angle := range someTurns() {
			want, wantOk := timesAtAngle(h, ratOf(angle))
			times, ok := impl.TimesWithAngle(h, angle)
			wantList(t, fmt.Sprintf("TimesWithAngle %v of %d hours", angle, h), times, ok, want, wantOk)
			if ok && len(times) != h-1 {
				t.Errorf("%d times with the angle %v of %d hours", len(times), angle, h)
			}
		}
	})
	for _, c := range []struct {
		h      int
		angle  impl.Turn
		wantOk bool
	}{
		{2, turn(1, 1000000), true}, {3, turn(1, 500000), true}, {3, turn(1, 500001), false}, {24, turn(1, 43478), true}, {24, turn(1, 43479), false},
		{12, turn(1, 90909), true}, {12, turn(1, 90910), false}, {12, turn(11, 90910), false}, {24, turn(999999, 1000000), false},
	} {
		times, ok := impl.TimesWithAngle(c.h, c.angle)
		if ok != c.wantOk || !ok && len(times) > 0 {
			t.Errorf("TimesWithAngle %v of %d hours: got %v, %v, want %v", c.angle, c.h, times, ok, c.wantOk)
		}
	}
}

func TestOwnMirrors(t *testing.T) {
	everyDial(func(h int) {
		want := slices.DeleteFunc(smallTurns(30), func(x impl.Turn) bool {
			long := longAt(h, ratOf(x))
			return mirrorRat(ratOf(x)).Cmp(ratOf(x)) != 0 || mirrorRat(long).Cmp(long) != 0
		})
		got, ok := impl.OwnMirrors(h)
		wantList(t, fmt.Sprintf("OwnMirrors of %d hours", h), got, ok, want, true)
		wantList(t, fmt.Sprintf("OwnMirrors of %d hours", h), got, ok, []impl.Turn{turn(0, 1), turn(1, 2)}, true)
		for _, time := range got {
			s, _ := impl.SeenOf(h, time)
			mirrored, ok := impl.MirrorSeen(s)
			wantResult(t, fmt.Sprintf("the mirror at %v of %d hours", time, h), mirrored, ok, s, true)
		}
	})
}

func TestNoSeen(t *testing.T) {
	for _, s := range noSeen() {
		checkNoSeen(t, 12, s)
		exchanged, ok := impl.ExchangeSeen(s)
		wantFailure(t, fmt.Sprint("ExchangeSeen ", s), exchanged, ok)
		mirrored, ok := impl.MirrorSeen(s)
		wantFailure(t, fmt.Sprint("MirrorSeen ", s), mirrored, ok)
		turned, ok := impl.TurnSeen(s, turn(0, 1))
		wantFailure(t, fmt.Sprint("TurnSeen ", s), turned, ok)
	}
	for _, bad := range noTurns {
		checkNoTimeSeen(t, 12, bad)
		turned, ok := impl.TurnSeen(seen(0, 1, 0, 1), bad)
		wantFailure(t, fmt.Sprint("TurnSeen by ", bad), turned, ok)
	}
	for _, h := range noDials {
		checkNoSeen(t, h, seen(0, 1, 0, 1))
		checkNoSeen(t, h, seen(1, 143, 12, 143))
		checkNoTimeSeen(t, h, turn(0, 1))
		checkNoTimeSeen(t, h, turn(1, 143))
		times, ok := impl.AllExchanged(h)
		wantList(t, fmt.Sprintf("AllExchanged of %d hours", h), times, ok, nil, false)
		n, ok := impl.CountUnsure(h)
		wantFailure(t, fmt.Sprintf("CountUnsure of %d hours", h), n, ok)
		times, ok = impl.OwnMirrors(h)
		wantList(t, fmt.Sprintf("OwnMirrors of %d hours", h), times, ok, nil, false)
	}
}

// checkNoSeen calls what takes a dial and what is seen, one of which is none.
func checkNoSeen(t *testing.T, h int, s impl.Seen) {
	t.Helper()
	what := fmt.Sprintf(" %v of %d hours", s, h)
	time, ok := impl.TimeSeen(h, s)
	wantFailure(t, "TimeSeen"+what, time, ok)
	isTrue, ok := impl.IsTrueSeen(h, s)
	wantFailure(t, "IsTrueSeen"+what, isTrue, ok)
	for name, call := range map[string]func(int, impl.Seen) ([]impl.Turn, bool){
		"TimesAlike": impl.TimesAlike, "TimesTurned": impl.TimesTurned, "TurnsOfDial": impl.TurnsOfDial, "TimesInGlass": impl.TimesInGlass,
	} {
		times, ok := call(h, s)
		wantList(t, name+what, times, ok, nil, false)
	}
}

// checkNoTimeSeen calls what takes a dial and a turn, one of which is none.
func checkNoTimeSeen(t *testing.T, h int, x impl.Turn) {
	t.Helper()
	what := fmt.Sprintf(" %v of %d hours", x, h)
	s, ok := impl.SeenOf(h, x)
	wantFailure(t, "SeenOf"+what, s, ok)
	time, ok := impl.ExchangedTime(h, x)
	wantFailure(t, "ExchangedTime"+what, time, ok)
	times, ok := impl.TimesWithAngle(h, x)
	wantList(t, "TimesWithAngle"+what, times, ok, nil, false)
}

func TestExampleOfSeen(t *testing.T) {
	times, ok := impl.AllExchanged(12)
	wantResult(t, "how many times are exchanged", len(times), ok, 143, true)
	n, ok := impl.CountUnsure(12)
	wantResult(t, "CountUnsure", n, ok, 132, true)
	s, ok := impl.SeenOf(12, turn(1, 143))
	wantResult(t, "SeenOf", s, ok, seen(1, 143, 12, 143), true)
	time, ok := impl.ExchangedTime(12, turn(1, 143))
	wantResult(t, "ExchangedTime", time, ok, turn(12, 143), true)
	time, ok = impl.TimeSeen(12, seen(1, 4, 0, 1))
	wantResult(t, "TimeSeen", time, ok, turn(1, 4), true)
	mirrored, ok := impl.MirrorSeen(seen(1, 4, 0, 1))
	wantResult(t, "MirrorSeen", mirrored, ok, seen(3, 4, 0, 1), true)
	times, ok = impl.TimesWithAngle(12, turn(1, 2))
	wantResult(t, "how many times with the angle 1/2", len(times), ok, 11, true)
	wantList(t, "TimesWithAngle", times[:3], ok, []impl.Turn{turn(1, 22), turn(3, 22), turn(5, 22)}, true)
}
