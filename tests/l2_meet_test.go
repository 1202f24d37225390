package tests

import (
	"fmt"
	"math"
	"math/big"
	"slices"
	"testing"

	"loop.example/g01241/impl"
)

func hand(num int, den int, speed int) impl.Hand {
	return impl.Hand{Start: turn(num, den), Speed: speed}
}

// noHands are values that break the rules for hands: starts that are no turns, a start with a Den of 1001, speeds that are too great.
func noHands() []impl.Hand {
	list := []impl.Hand{
		{}, hand(1, 1001, 1), hand(1000, 1001, 0), hand(1, 1000000, 1), hand(0, 1, 401), hand(0, 1, -401), hand(1, 2, math.MaxInt), hand(1, 2, math.MinInt),
	}
	for _, bad := range noTurns {
		list = append(list, impl.Hand{Start: bad, Speed: 1})
	}
	return list
}

func someHands() []impl.Hand {
	var list []impl.Hand
	for _, start := range []impl.Turn{turn(0, 1), turn(1, 2), turn(5, 12), turn(999, 1000), turn(1, 997), turn(1, 64)} {
		for _, speed := range []int{0, 1, -1, 2, 12, -12, 400, -400} {
			list = append(list, impl.Hand{Start: start, Speed: speed})
		}
	}
	return list
}

// stands is an independent HandAt for turns of any Den.
func stands(a impl.Hand, t *big.Rat) *big.Rat {
	place := timesRat(t, a.Speed)
	return partOf(place.Add(place, ratOf(a.Start)))
}

// isAhead is an independent AheadAt for turns of any Den.
func isAhead(a impl.Hand, b impl.Hand, t *big.Rat) *big.Rat {
	return partOf(new(big.Rat).Sub(stands(a, t), stands(b, t)))
}

// timesAhead is an independent AheadTimes. It tries all numbers of whole turns that a can be ahead.
func timesAhead(a impl.Hand, b impl.Hand, by impl.Turn) ([]impl.Turn, bool) {
	speed := a.Speed - b.Speed
	if speed == 0 {
		return nil, false
	}
	way := new(big.Rat).Sub(ratOf(by), ratOf(a.Start))
	way.Add(way, ratOf(b.Start))
	var rats []*big.Rat
	for whole := -max(speed, -speed) - 2; whole <= max(speed, -speed)+2; whole++ {
		r := new(big.Rat).Add(way, big.NewRat(int64(whole), 1))
		r.Mul(r, big.NewRat(1, int64(speed)))
		if r.Sign() >= 0 && r.Cmp(big.NewRat(1, 1)) < 0 {
			rats = append(rats, r)
		}
	}
	return listOfRats(rats)
}

// listOfRats returns the turns that these are, increasing and each once, if all of them are turns.
func listOfRats(rats []*big.Rat) ([]impl.Turn, bool) {
	slices.SortFunc(rats, (*big.Rat).Cmp)
	var list []impl.Turn
	for _, r := range rats {
		x, ok := turnOfRat(r)
		if !ok {
			return nil, false
		}
		if len(list) == 0 || list[len(list)-1] != x {
			list = append(list, x)
		}
	}
	return list, true
}

func placesOf(a impl.Hand, times []impl.Turn) ([]impl.Turn, bool) {
	var rats []*big.Rat
	for _, t := range times {
		rats = append(rats, stands(a, ratOf(t)))
	}
	return listOfRats(rats)
}

func wantList[T comparable](t *testing.T, what string, got []T, ok bool, want []T, wantOk bool) {
	t.Helper()
	if !slices.Equal(got, want) || ok != wantOk {
		t.Errorf("%s: got %d elements, %v, want %d, %v", what, len(got), ok, len(want), wantOk)
		for i := range min(len(got), len(want)) {
			wantResult(t, fmt.Sprint(what, " at ", i), got[i], ok, want[i], wantOk)
		}
	}
}

func TestIsHand(t *testing.T) {
	if impl.MaxSpeed != 400 {
		t.Error("MaxSpeed", impl.MaxSpeed)
	}
	for _, a := range append(someHands(), hand(1, 1000, 399), hand(998, 999, -399), hand(1, 1000, 400), hand(1, 1000, -400)) {
		if !impl.IsHand(a) {
			t.Errorf("%v is a hand", a)
		}
	}
	for _, a := range noHands() {
		if impl.IsHand(a) {
			t.Errorf("%v is no hand", a)
		}
	}
}

func TestHandAt(t *testing.T) {
	for _, a := range someHands() {
		for _, time := range someTurns() {
			got, ok := impl.HandAt(a, time)
			wantTurn(t, fmt.Sprint("HandAt ", a, time), got, ok, stands(a, ratOf(time)))
		}
	}
	for _, c := range []struct {
		a    impl.Hand
		time impl.Turn
		want impl.Turn
	}{
		{hand(0, 1, 12), turn(1, 8), turn(1, 2)}, {hand(3, 4, 1), turn(1, 2), turn(1, 4)}, {hand(0, 1, -1), turn(1, 4), turn(3, 4)},
		{hand(1, 3, 0), turn(999999, 1000000), turn(1, 3)}, {hand(0, 1, 400), turn(1, 1000000), turn(1, 2500)}, {hand(1, 64, 1), turn(1, 15625), turn(15689, 1000000)},
		{hand(0, 1, -400), turn(0, 1), turn(0, 1)},
	} {
		got, ok := impl.HandAt(c.a, c.time)
		wantResult(t, fmt.Sprint("HandAt ", c.a, c.time), got, ok, c.want, true)
	}
	got, ok := impl.HandAt(hand(1, 1000, 1), turn(1, 1001))
	wantFailure(t, "a place with a Den of 1001000", got, ok)
}

func TestAheadAtAndRelativeHand(t *testing.T) {
	for _, a := range someHands() {
		for _, b := range someHands() {
			what := fmt.Sprint(a, b)
			relative := hand(0, 1, a.Speed-b.Speed)
			relative.Start, _ = turnOfRat(isAhead(a, b, new(big.Rat)))
			fits := relative.Start.Den <= 1000 && max(relative.Speed, -relative.Speed) <= 400
			if !fits {
				relative = impl.Hand{}
			}
			got, ok := impl.RelativeHand(a, b)
			wantResult(t, "RelativeHand "+what, got, ok, relative, fits)
			for _, time := range []impl.Turn{turn(0, 1), turn(1, 22), turn(1, 11), turn(719, 720), turn(1, 1000000), turn(12345, 86399), turn(1, 999983)} {
				ahead, ok := impl.AheadAt(a, b, time)
				wantTurn(t, fmt.Sprint("AheadAt ", what, time), ahead, ok, isAhead(a, b, ratOf(time)))
			}
		}
	}
}

func TestAheadAtTheLimits(t *testing.T) {
	a, b, time := hand(1, 999, 1), hand(1, 999, 0), turn(1, 1000000)
	place, ok := impl.HandAt(a, time)
	wantFailure(t, "a place with a Den of 999000000", place, ok)
	ahead, ok := impl.AheadAt(a, b, time)
	wantResult(t, "ahead of a hand, though the place is no turn", ahead, ok, time, true)
	ahead, ok = impl.AheadAt(hand(1, 999, 1), hand(1, 998, 0), turn(1, 2))
	wantTurn(t, "ahead with a Den of 498501", ahead, ok, isAhead(hand(1, 999, 1), hand(1, 998, 0), big.NewRat(1, 2)))
	ahead, ok = impl.AheadAt(hand(1, 999, 1), hand(1, 998, 0), turn(1, 7))
	wantFailure(t, "ahead with a Den beyond MaxDen", ahead, ok)
}

func TestRelativeHandAtTheLimits(t *testing.T) {
	for _, c := range []struct {
		a, b, want impl.Hand
		ok         bool
	}{
		{hand(1, 8, 200), hand(1, 125, -200), hand(117, 1000, 400), true},
		{hand(1, 125, -200), hand(1, 8, 200), hand(883, 1000, -400), true},
		{hand(0, 1, 200), hand(0, 1, -201), impl.Hand{}, false},
		{hand(0, 1, -201), hand(0, 1, 200), impl.Hand{}, false},
		{hand(1, 7, 1), hand(1, 143, 1), impl.Hand{}, false},
		{hand(1, 7, 400), hand(1, 7, 400), hand(0, 1, 0), true},
		{hand(1, 4, 400), hand(3, 4, 0), hand(1, 2, 400), true},
	} {
		got, ok := impl.RelativeHand(c.a, c.b)
		wantResult(t, fmt.Sprint("RelativeHand ", c.a, c.b), got, ok, c.want, c.ok)
	}
}

func TestMeetings(t *testing.T) {
	for _, a := range someHands() {
		for _, b := range someHands() {
			what := fmt.Sprint(a, b)
			want, wantOk := timesAhead(a, b, turn(0, 1))
			times, ok := impl.MeetTimes(a, b)
			wantList(t, "MeetTimes "+what, times, ok, want, wantOk)
			count, ok := impl.CountMeets(a, b)
			wantResult(t, "CountMeets "+what, count, ok, max(a.Speed-b.Speed, b.Speed-a.Speed), a.Speed != b.Speed)
			if wantOk && len(times) != count {
				t.Error("CountMeets", what, count, len(times))
			}
			first, ok := impl.FirstMeet(a, b)
			wantResult(t, "FirstMeet "+what, first, ok, append(want, impl.Turn{})[0], wantOk)
			wantPlaces, placesOk := placesOf(a, want)
			if !wantOk || !placesOk {
				wantPlaces, placesOk = nil, false
			}
			places, ok := impl.MeetPlaces(a, b)
			wantList(t, "MeetPlaces "+what, places, ok, wantPlaces, placesOk)
			for _, time := range times {
				if isAhead(a, b, ratOf(time)).Sign() != 0 {
					t.Error("they do not stand in one place", what, time)
				}
			}
		}
	}
}

func TestAheadTimes(t *testing.T) {
	hands := []impl.Hand{hand(0, 1, 1), hand(0, 1, 12), hand(1, 3, -5), hand(7, 8, 0), hand(1, 999, 400), hand(998, 999, -400), hand(1, 991, 2)}
	for _, a := range hands {
		for _, b := range hands {
			for _, by := range []impl.Turn{turn(0, 1), turn(1, 2), turn(1, 4), turn(2, 3), turn(999, 1000), turn(1, 997), turn(1, 1000)} {
				want, wantOk := timesAhead(a, b, by)
				times, ok := impl.AheadTimes(a, b, by)
				wantList(t, fmt.Sprint("AheadTimes ", a, b, by), times, ok, want, wantOk)
			}
			want, wantOk := timesAhead(a, b, turn(1, 2))
			times, ok := impl.OppositeTimes(a, b)
			wantList(t, fmt.Sprint("OppositeTimes ", a, b), times, ok, want, wantOk)
		}
	}
	for _, by := range append(noTurns, turn(1, 1001), turn(1000, 1001), turn(1, 1000000)) {
		times, ok := impl.AheadTimes(hand(0, 1, 1), hand(0, 1, 2), by)
		wantList(t, fmt.Sprint("AheadTimes by ", by), times, ok, nil, false)
	}
}

func TestTimesAtPlace(t *testing.T) {
	for _, a := range append(someHands(), hand(1, 999, 3), hand(998, 999, -399)) {
		for _, place := range []impl.Turn{turn(0, 1), turn(1, 2), turn(2, 3), turn(999, 1000), turn(1, 1000), turn(1, 991)} {
			want, wantOk := timesAhead(a, hand(0, 1, 0), place)
			times, ok := impl.TimesAtPlace(a, place)
			wantList(t, fmt.Sprint("TimesAtPlace ", a, place), times, ok, want, wantOk)
		}
	}
	times, ok := impl.TimesAtPlace(hand(1, 4, -2), turn(0, 1))
	wantList(t, "a hand to the left", times, ok, []impl.Turn{turn(1, 8), turn(5, 8)}, true)
	times, ok = impl.TimesAtPlace(hand(1, 4, 0), turn(1, 4))
	wantList(t, "a hand that stands still at the place", times, ok, nil, false)
	for _, place := range append(noTurns, turn(1, 1001), turn(1, 1000000)) {
		times, ok := impl.TimesAtPlace(hand(0, 1, 1), place)
		wantList(t, fmt.Sprint("TimesAtPlace ", place), times, ok, nil, false)
	}
}

func TestMeetingsAtTheLimits(t *testing.T) {
	a, b := hand(1, 2, 400), hand(1, 625, -400)
	times, ok := impl.MeetTimes(a, b)
	want, _ := timesAhead(a, b, turn(0, 1))
	wantList(t, "times with a Den of just MaxDen", times, ok, want, true)
	if len(times) != 800 || times[0].Den != impl.MaxDen {
		t.Error("times with a Den of just MaxDen", times)
	}
	for _, c := range []struct {
		why  string
		a, b impl.Hand
	}{
		{"no time is a turn", hand(1, 9, 400), hand(1, 139, -400)},
		{"only the first time is a turn", hand(1, 991, 0), hand(1, 997, 2)},
		{"only the last time is a turn", hand(1, 997, 0), hand(1, 991, 2)},
	} {
		times, ok := impl.MeetTimes(c.a, c.b)
		wantList(t, c.why, times, ok, nil, false)
		first, ok := impl.FirstMeet(c.a, c.b)
		wantFailure(t, c.why, first, ok)
		next, ok := impl.NextMeet(c.a, c.b, turn(0, 1))
		wantFailure(t, c.why, next, ok)
		next, ok = impl.NextMeet(c.a, c.b, turn(1, 2))
		wantFailure(t, c.why, next, ok)
		places, ok := impl.MeetPlaces(c.a, c.b)
		wantList(t, c.why, places, ok, nil, false)
		times, ok = impl.ThreeMeet(c.a, c.b, c.a)
		wantList(t, c.why, times, ok, nil, false)
		count, ok := impl.CountMeets(c.a, c.b)
		wantResult(t, c.why, count, ok, max(c.a.Speed-c.b.Speed, c.b.Speed-c.a.Speed), true)
	}
}

func TestMeetPlaces(t *testing.T) {
	for _, c := range []struct {
		a, b impl.Hand
		want []impl.Turn
	}{
		{hand(0, 1, 1), hand(0, 1, -1), []impl.Turn{turn(0, 1), turn(1, 2)}},
		{hand(0, 1, 2), hand(0, 1, 4), []impl.Turn{turn(0, 1)}},
		{hand(0, 1, -3), hand(1, 4, 0), []impl.Turn{turn(1, 4)}},
		{hand(1, 4, 0), hand(0, 1, 12), []impl.Turn{turn(1, 4)}},
		{hand(0, 1, 2), hand(0, 1, -1), []impl.Turn{turn(0, 1), turn(1, 3), turn(2, 3)}},
		{hand(1, 2, 1), hand(0, 1, 3), []impl.Turn{turn(1, 4), turn(3, 4)}},
	} {
		places, ok := impl.MeetPlaces(c.a, c.b)
		wantList(t, fmt.Sprint("MeetPlaces ", c.a, c.b), places, ok, c.want, true)
	}
	a, b := hand(1, 16, 251), hand(1, 1000, -249)
	places, ok := impl.MeetPlaces(a, b)
	times, _ := timesAhead(a, b, turn(0, 1))
	want, _ := placesOf(a, times)
	wantList(t, "places with a Den of just MaxDen", places, ok, want, true)
	if len(places) != 500 || places[0].Den != impl.MaxDen {
		t.Error("places with a Den of just MaxDen", places)
	}
}

func TestMeetPlacesThatAreNoTurns(t *testing.T) {
	for _, c := range []struct {
		why  string
		a, b impl.Hand
	}{
		{"no place is a turn", hand(989, 995, -211), hand(433, 796, 289)},
		{"the first place is a turn, the last one is none", hand(279, 415, -299), hand(718, 747, 201)},
		{"the first place is none, the last one is a turn", hand(299, 597, -97), hand(432, 995, 358)},
	} {
		want, wantOk := timesAhead(c.a, c.b, turn(0, 1))
		times, ok := impl.MeetTimes(c.a, c.b)
		wantList(t, c.why, times, ok, want, true)
		if _, placesOk := placesOf(c.a, want); !wantOk || placesOk {
			t.Error(c.why, wantOk, placesOk)
		}
		places, ok := impl.MeetPlaces(c.a, c.b)
		wantList(t, c.why, places, ok, nil, false)
		for _, third := range []impl.Hand{c.a, c.b} {
			times, ok = impl.ThreeMeet(c.a, c.b, third)
			wantList(t, c.why, times, ok, want, true)
		}
	}
}

func TestNextMeet(t *testing.T) {
	pairs := [][2]impl.Hand{
		{hand(0, 1, 1), hand(0, 1, 12)}, {hand(0, 1, 1), hand(0, 1, -1)}, {hand(1, 3, 7), hand(1, 4, 0)}, {hand(0, 1, 1), hand(0, 1, 2)},
		{hand(1, 2, 1), hand(0, 1, 2)}, {hand(1, 2, 1), hand(0, 1, 0)}, {hand(999, 1000, 400), hand(1, 1000, -400)},
	}
	for _, pair := range pairs {
		times, _ := timesAhead(pair[0], pair[1], turn(0, 1))
		for _, time := range append(someTurns(), times...) {
			want := times[0]
			for _, candidate := range slices.Backward(times) {
				if ratOf(candidate).Cmp(ratOf(time)) > 0 {
					want = candidate
				}
			}
			got, ok := impl.NextMeet(pair[0], pair[1], time)
			wantResult(t, fmt.Sprint("NextMeet ", pair, time), got, ok, want, true)
		}
	}
	for _, c := range []struct {
		a, b       impl.Hand
		time, want impl.Turn
	}{
		{hand(0, 1, 1), hand(0, 1, 12), turn(10, 11), turn(0, 1)},
		{hand(0, 1, 1), hand(0, 1, 12), turn(0, 1), turn(1, 11)},
		{hand(0, 1, 1), hand(0, 1, 12), turn(1, 12), turn(1, 11)},
		{hand(0, 1, 1), hand(0, 1, 12), turn(999999, 1000000), turn(0, 1)},
		{hand(0, 1, 1), hand(0, 1, 2), turn(0, 1), turn(0, 1)},
		{hand(1, 2, 1), hand(0, 1, 2), turn(1, 2), turn(1, 2)},
		{hand(1, 2, 1), hand(0, 1, 2), turn(2, 3), turn(1, 2)},
	} {
		got, ok := impl.NextMeet(c.a, c.b, c.time)
		wantResult(t, fmt.Sprint("NextMeet ", c.a, c.b, c.time), got, ok, c.want, true)
	}
}

func TestThreeMeet(t *testing.T) {
	hands := []impl.Hand{
		hand(0, 1, 1), hand(0, 1, 12), hand(0, 1, 0), hand(1, 2, 0), hand(1, 4, -3), hand(0, 1, 60), hand(1, 3, 400), hand(2, 3, -400), hand(1, 2, 400), hand(1, 64, 1),
	}
	for _, a := range hands {
		for _, b := range hands {
			times, wantOk := timesAhead(a, b, turn(0, 1))
			for _, c := range hands {
				var want []impl.Turn
				for _, time := range times {
					if isAhead(a, c, ratOf(time)).Sign() == 0 {
						want = append(want, time)
					}
				}
				got, ok := impl.ThreeMeet(a, b, c)
				wantList(t, fmt.Sprint("ThreeMeet ", a, b, c), got, ok, want, wantOk)
			}
		}
	}
	times, ok := impl.ThreeMeet(hand(0, 1, 1), hand(0, 1, 12), hand(0, 1, 720))
	wantList(t, "a third hand that is too fast", times, ok, nil, false)
	times, ok = impl.ThreeMeet(hand(0, 1, 1), hand(0, 1, 12), hand(1, 2, 0))
	wantList(t, "none that is met", times, ok, nil, true)
}

func TestNoHands(t *testing.T) {
	good, top := hand(0, 1, 12), turn(0, 1)
	for _, bad := range noHands() {
		place, ok := impl.HandAt(bad, top)
		wantFailure(t, fmt.Sprint("HandAt ", bad), place, ok)
		times, ok := impl.TimesAtPlace(bad, top)
		wantList(t, fmt.Sprint("TimesAtPlace ", bad), times, ok, nil, false)
		times, ok = impl.ThreeMeet(good, hand(0, 1, 1), bad)
		wantList(t, fmt.Sprint("ThreeMeet with ", bad), times, ok, nil, false)
		for _, pair := range [][2]impl.Hand{{bad, good}, {good, bad}, {bad, bad}} {
			checkNoPair(t, pair[0], pair[1])
		}
		wantNoGaps(t, []impl.Hand{bad}, top)
		wantNoGaps(t, []impl.Hand{good, bad}, top)
		wantNoGaps(t, []impl.Hand{bad, good}, top)
	}
	for _, bad := range noTurns {
		place, ok := impl.HandAt(good, bad)
		wantFailure(t, fmt.Sprint("HandAt at ", bad), place, ok)
		ahead, ok := impl.AheadAt(good, hand(0, 1, 1), bad)
		wantFailure(t, fmt.Sprint("AheadAt at ", bad), ahead, ok)
		next, ok := impl.NextMeet(good, hand(0, 1, 1), bad)
		wantFailure(t, fmt.Sprint("NextMeet at ", bad), next, ok)
		wantNoGaps(t, []impl.Hand{good}, bad)
	}
}

func checkNoPair(t *testing.T, a impl.Hand, b impl.Hand) {
	t.Helper()
	what, top := fmt.Sprint(" of ", a, b), turn(0, 1)
	ahead, ok := impl.AheadAt(a, b, top)
	wantFailure(t, "AheadAt"+what, ahead, ok)
	relative, ok := impl.RelativeHand(a, b)
	wantFailure(t, "RelativeHand"+what, relative, ok)
	count, ok := impl.CountMeets(a, b)
	wantFailure(t, "CountMeets"+what, count, ok)
	first, ok := impl.FirstMeet(a, b)
	wantFailure(t, "FirstMeet"+what, first, ok)
	next, ok := impl.NextMeet(a, b, top)
	wantFailure(t, "NextMeet"+what, next, ok)
	for name, f := range map[string]func(impl.Hand, impl.Hand) ([]impl.Turn, bool){
		"MeetTimes": impl.MeetTimes, "OppositeTimes": impl.OppositeTimes, "MeetPlaces": impl.MeetPlaces,
	} {
		times, ok := f(a, b)
		wantList(t, name+what, times, ok, nil, false)
	}
	times, ok := impl.AheadTimes(a, b, top)
	wantList(t, "AheadTimes"+what, times, ok, nil, false)
	times, ok = impl.ThreeMeet(a, b, hand(0, 1, 1))
	wantList(t, "ThreeMeet"+what, times, ok, nil, false)
}

func wantNoGaps(t *testing.T, hands []impl.Hand, time impl.Turn) {
	t.Helper()
	gaps, ok := impl.GapsAt(hands, time)
	wantList(t, fmt.Sprint("GapsAt ", hands, time), gaps, ok, nil, false)
	spread, ok := impl.AreSpread(hands, time)
	wantFailure(t, fmt.Sprint("AreSpread ", hands, time), spread, ok)
}

// gapsOf is an independent GapsAt for hands whose places and gaps are turns: it goes from the least place to the one after
// it that is reached first.
func gapsOf(hands []impl.Hand, time impl.Turn) []impl.Turn {
	var places []*big.Rat
	for _, a := range hands {
		places = append(places, stands(a, ratOf(time)))
	}
	slices.SortFunc(places, (*big.Rat).Cmp)
	places = append(places, new(big.Rat).Add(places[0], big.NewRat(1, 1)))
	var gaps []impl.Turn
	for i := range hands {
		gap, _ := turnOfRat(new(big.Rat).Sub(places[i+1], places[i]))
		gaps = append(gaps, gap)
	}
	return gaps
}

func TestGapsAt(t *testing.T) {
	hands := []impl.Hand{
		hand(1, 2, 1), hand(0, 1, 12), hand(1, 4, -3), hand(0, 1, 0), hand(3, 4, 0), hand(1, 2, 1), hand(5, 12, 400), hand(5, 12, -400), hand(1, 6, 2), hand(0, 1, 1),
		hand(2, 3, 0), hand(11, 12, 60),
	}
	for from := range hands {
		for to := from + 1; to <= len(hands); to++ {
			for _, time := range []impl.Turn{turn(0, 1), turn(1, 2), turn(1, 11), turn(719, 720), turn(1, 64), turn(12, 13), turn(3, 1000)} {
				list := hands[from:to]
				want := gapsOf(list, time)
				gaps, ok := impl.GapsAt(list, time)
				wantList(t, fmt.Sprint("GapsAt ", list, time), gaps, ok, want, true)
				even := len(list) == 1 || want[0].Num > 0
				for _, gap := range want {
					even = even && gap == want[0]
				}
				spread, ok := impl.AreSpread(list, time)
				wantResult(t, fmt.Sprint("AreSpread ", list, time), spread, ok, even, true)
			}
		}
	}
}

func TestGapsInOrder(t *testing.T) {
	for _, c := range []struct {
		why    string
		hands  []impl.Hand
		time   impl.Turn
		want   []impl.Turn
		spread bool
	}{
		{"one hand alone", []impl.Hand{hand(1, 3, 5)}, turn(1, 7), []impl.Turn{turn(0, 1)}, true},
		{"two in one place", []impl.Hand{hand(1, 2, 0), hand(1, 2, 0)}, turn(1, 7), []impl.Turn{turn(0, 1), turn(0, 1)}, false},
		{"all in one place", []impl.Hand{hand(0, 1, 1), hand(0, 1, 12), hand(1, 11, 0)}, turn(1, 11), []impl.Turn{turn(0, 1), turn(0, 1), turn(0, 1)}, false},
		{"opposite", []impl.Hand{hand(3, 4, 0), hand(1, 4, 0)}, turn(0, 1), []impl.Turn{turn(1, 2), turn(1, 2)}, true},
		{"around from the least place", []impl.Hand{hand(3, 4, 0), hand(1, 8, 0), hand(1, 4, 0)}, turn(0, 1), []impl.Turn{turn(1, 8), turn(1, 2), turn(3, 8)}, false},
		{"two of three in one place", []impl.Hand{hand(2, 3, 0), hand(1, 3, 0), hand(2, 3, 0)}, turn(0, 1), []impl.Turn{turn(1, 3), turn(0, 1), turn(2, 3)}, false},
		{"two pairs", []impl.Hand{hand(1, 2, 0), hand(0, 1, 0), hand(1, 2, 0), hand(0, 1, 0)}, turn(0, 1), []impl.Turn{turn(0, 1), turn(1, 2), turn(0, 1), turn(1, 2)}, false},
		{"spread by speeds", []impl.Hand{hand(0, 1, 1), hand(0, 1, 2), hand(0, 1, 3)}, turn(1, 3), []impl.Turn{turn(1, 3), turn(1, 3), turn(1, 3)}, true},
		{"no more spread", []impl.Hand{hand(0, 1, 1), hand(0, 1, 2), hand(0, 1, 3)}, turn(1, 6), []impl.Turn{turn(1, 6), turn(1, 6), turn(2, 3)}, false},
	} {
		gaps, ok := impl.GapsAt(c.hands, c.time)
		wantList(t, c.why, gaps, ok, c.want, true)
		spread, ok := impl.AreSpread(c.hands, c.time)
		wantResult(t, c.why, spread, ok, c.spread, true)
	}
}

func TestGapsAtTheLimits(t *testing.T) {
	var hands []impl.Hand
	for i := range 12 {
		x, _ := impl.MakeTurn(5*i, 12)
		hands = append(hands, impl.Hand{Start: x, Speed: -7})
	}
	gaps, ok := impl.GapsAt(hands, turn(1, 1000))
	wantList(t, "12 hands", gaps, ok, slices.Repeat([]impl.Turn{turn(1, 12)}, 12), true)
	spread, ok := impl.AreSpread(hands, turn(1, 1000))
	wantResult(t, "12 hands", spread, ok, true, true)
	wantNoGaps(t, append(hands, hand(0, 1, 0)), turn(0, 1))
	wantNoGaps(t, make([]impl.Hand, 100), turn(0, 1))
	wantNoGaps(t, nil, turn(0, 1))
	wantNoGaps(t, []impl.Hand{}, turn(0, 1))
	// The places are 1999/999000 and 1/997.
	wantNoGaps(t, []impl.Hand{hand(1, 999, 1), hand(1, 997, 0)}, turn(1, 1000))
	gaps, ok = impl.GapsAt([]impl.Hand{hand(1, 999, 1), hand(1, 999, 0)}, turn(1, 1000))
	wantList(t, "places with a Den of 999000", gaps, ok, []impl.Turn{turn(1, 1000), turn(999, 1000)}, true)
	// The gaps would be turns, but the places, with a Den of 999000000, are none.
	wantNoGaps(t, []impl.Hand{hand(1, 999, 1), hand(1, 999, 1)}, turn(1, 1000000))
	wantNoGaps(t, []impl.Hand{hand(1, 999, 1)}, turn(1, 1000000))
	gaps, ok = impl.GapsAt([]impl.Hand{hand(0, 1, 1)}, turn(1, 1000000))
	wantList(t, "a place with a Den of just MaxDen", gaps, ok, []impl.Turn{turn(0, 1)}, true)
}

func TestHandsOfDial(t *testing.T) {
	for h := impl.MinHours; h <= impl.MaxHours; h++ {
		hands, ok := impl.HandsOfDial(h)
		wantList(t, fmt.Sprint("HandsOfDial ", h), hands, ok, []impl.Hand{hand(0, 1, 1), hand(0, 1, h)}, true)
		for _, time := range someTurns() {
			angle, _ := impl.AngleOf(h, time)
			ahead, ok := impl.AheadAt(hands[1], hands[0], time)
			wantResult(t, fmt.Sprint("AheadAt of a dial ", h, time), ahead, ok, angle, true)
		}
	}
	for _, h := range noDials {
		hands, ok := impl.HandsOfDial(h)
		wantList(t, fmt.Sprint("HandsOfDial ", h), hands, ok, nil, false)
	}
}

func TestExampleOfMeetings(t *testing.T) {
	hands, _ := impl.HandsOfDial(12)
	short, long := hands[0], hands[1]
	count, ok := impl.CountMeets(short, long)
	wantResult(t, "meetings of a dial", count, ok, 11, true)
	var meets, opposites []impl.Turn
	for i := range 11 {
		meets = append(meets, turn(i, 11))
		opposites = append(opposites, turn(2*i+1, 22))
	}
	meets[0], opposites[5] = turn(0, 1), turn(1, 2)
	times, ok := impl.MeetTimes(short, long)
	wantList(t, "meetings of a dial", times, ok, meets, true)
	times, ok = impl.OppositeTimes(short, long)
	wantList(t, "hands of a dial that are opposite", times, ok, opposites, true)
	first, ok := impl.FirstMeet(short, long)
	wantResult(t, "the first meeting", first, ok, turn(0, 1), true)
	next, ok := impl.NextMeet(short, long, turn(10, 11))
	wantResult(t, "the next meeting behind the last one", next, ok, turn(0, 1), true)
	right, left := hand(0, 1, 1), hand(0, 1, -1)
	halves := []impl.Turn{turn(0, 1), turn(1, 2)}
	times, ok = impl.MeetTimes(right, left)
	wantList(t, "to the right and to the left", times, ok, halves, true)
	places, ok := impl.MeetPlaces(right, left)
	wantList(t, "to the right and to the left", places, ok, halves, true)
}
