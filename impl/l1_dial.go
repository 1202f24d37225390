package impl

import (
	"cmp"
	"strconv"
	"strings"
)

const MaxDen = 1000000
const MinHours = 2
const MaxHours = 24

const maxFraction = 1000000000000
const maxFactor = 10000
const secondsOfHour = 3600

type Turn struct {
	Num int
	Den int
}

// dialTime is a time on a dial. Its turn is embedded, so that a time is read like the turn that it is.
type dialTime struct {
	Turn
	hours int
}

// IsTurn reports whether t, whose numbers may be any, is a turn.
func IsTurn(t Turn) bool {
	return isWithin(t.Den, 1, MaxDen) && t == lowest(t.Num, t.Den)
}

// MakeTurn returns num / den without whole turns, num of a size of at most 10^12, den in 1..10^12:
// parts of less than 0 count as those behind whole turns.
func MakeTurn(num int, den int) (Turn, bool) {
	if !isWithin(num, -maxFraction, maxFraction) || !isWithin(den, 1, maxFraction) {
		return Turn{}, false
	}
	return limitedTurn(lowest(num, den))
}

// AddTurns returns both together.
func AddTurns(a Turn, b Turn) (Turn, bool) {
	if !IsTurn(a) || !IsTurn(b) {
		return Turn{}, false
	}
	return limitedTurn(lowest(a.Num*b.Den+b.Num*a.Den, a.Den*b.Den))
}

// LessTurn returns a less b: by how much a is ahead of b.
func LessTurn(a Turn, b Turn) (Turn, bool) {
	if !IsTurn(a) || !IsTurn(b) {
		return Turn{}, false
	}
	return limitedTurn(difference(a, b))
}

// TimesTurn returns k times a turn, k in -10000..10000.
func TimesTurn(t Turn, k int) (Turn, bool) {
	if !IsTurn(t) || !isWithin(k, -maxFactor, maxFactor) {
		return Turn{}, false
	}
	return manyTimes(t, k), true
}

// PartOfTurn returns a turn divided by k, k in 1..10000: the least turn of which k times is this one.
func PartOfTurn(t Turn, k int) (Turn, bool) {
	if !IsTurn(t) || !isWithin(k, 1, maxFactor) {
		return Turn{}, false
	}
	return limitedTurn(lowest(t.Num, t.Den*k))
}

// CompareTurns returns -1, 0 or 1, as a is less than b, the same, or greater.
func CompareTurns(a Turn, b Turn) (int, bool) {
	if !IsTurn(a) || !IsTurn(b) {
		return 0, false
	}
	return turnOrder(a, b), true
}

// MirrorTurn returns the turn to the other side: 0 for 0.
func MirrorTurn(t Turn) (Turn, bool) {
	return TimesTurn(t, -1)
}

// LongHand returns where the long hand stands.
func LongHand(h int, t Turn) (Turn, bool) {
	return tellTime(h, t, dialTime.longHand)
}

// AngleOf returns by how much the long hand is ahead of the short one.
func AngleOf(h int, t Turn) (Turn, bool) {
	return tellTime(h, t, dialTime.angle)
}

// SmallAngle returns the lesser one of this and the one to the other side: at most 1 / 2.
func SmallAngle(h int, t Turn) (Turn, bool) {
	return tellTime(h, t, dialTime.smallAngle)
}

// HourOf returns how many whole hours have gone: 0..h - 1.
func HourOf(h int, t Turn) (int, bool) {
	return tellTime(h, t, dialTime.hour)
}

// MinuteOf returns how many whole minutes of this hour have gone: 0..59.
func MinuteOf(h int, t Turn) (int, bool) {
	return tellTime(h, t, dialTime.minute)
}

// SecondOf returns which part of the minute has gone: where a hand stands that goes around in a minute.
func SecondOf(h int, t Turn) (Turn, bool) {
	return tellTime(h, t, dialTime.partOfMinute)
}

// TimeOf returns the time at hour, 0..h - 1, minute and second, each 0..59.
func TimeOf(h int, hour int, minute int, second int) (Turn, bool) {
	if !isDial(h) || !isWithin(hour, 0, h-1) || !isWithin(minute, 0, 59) || !isWithin(second, 0, 59) {
		return Turn{}, false
	}
	return lowest(hour*secondsOfHour+minute*60+second, h*secondsOfHour), true
}

// TimesWithLong returns all times, increasing, at which the long hand stands at a turn: h of them.
func TimesWithLong(h int, long Turn) ([]Turn, bool) {
	if !isDial(h) || !IsTurn(long) {
		return nil, false
	}
	return allParts(long, h)
}

// TimeText returns hour, :, minute, :, and second, each with two digits, and, if a part of a second has gone, +, its Num, / and its Den.
func TimeText(h int, t Turn) (string, bool) {
	return tellTime(h, t, dialTime.text)
}

// ParseTime returns the time with a TimeText. It fails if there is none.
func ParseTime(h int, s string) (Turn, bool) {
	whole, fraction, _ := strings.Cut(s, "+")
	seconds, wholeOk := parseSeconds(whole)
	part, partOk := parsePart(fraction)
	if !isDial(h) || !wholeOk || !partOk {
		return Turn{}, false
	}
	// Seconds and part are put together in one fraction, as the part alone may have too great a Den for a turn.
	t, ok := limitedTurn(lowest(seconds*part.Den+part.Num, h*secondsOfHour*part.Den))
	if text, _ := TimeText(h, t); !ok || text != s {
		return Turn{}, false
	}
	return t, true
}

// parseSeconds reads numbers where a TimeText has its first three. Whatever else is wrong with them,
// ParseTime finds when it compares the texts.
func parseSeconds(s string) (int, bool) {
	if len(s) != len("00:00:00") {
		return 0, false
	}
	hour, hourErr := strconv.Atoi(s[:2])
	minute, minuteErr := strconv.Atoi(s[3:5])
	second, secondErr := strconv.Atoi(s[6:])
	if hourErr != nil || minuteErr != nil || secondErr != nil {
		return 0, false
	}
	return hour*secondsOfHour + minute*60 + second, true
}

// parsePart reads the part of a second behind the +, 0 if there is no text.
func parsePart(s string) (Turn, bool) {
	if s == "" {
		return Turn{0, 1}, true
	}
	before, behind, _ := strings.Cut(s, "/")
	num, numErr := strconv.Atoi(before)
	den, denErr := strconv.Atoi(behind)
	part := Turn{num, den}
	if numErr != nil || denErr != nil || !IsTurn(part) {
		return Turn{}, false
	}
	return part, true
}

// tellTime returns what is told of a time, if there are such a dial and such a turn.
func tellTime[T any](h int, t Turn, tell func(dialTime) T) (T, bool) {
	if !isDial(h) || !IsTurn(t) {
		var nothing T
		return nothing, false
	}
	return tell(dialTime{t, h}), true
}

func (t dialTime) longHand() Turn {
	return manyTimes(t.Turn, t.hours)
}

func (t dialTime) angle() Turn {
	return manyTimes(t.Turn, t.hours-1)
}

func (t dialTime) smallAngle() Turn {
	angle := t.angle()
	other := manyTimes(angle, -1)
	return Turn{min(angle.Num, other.Num), angle.Den}
}

func (t dialTime) hour() int {
	return t.gone(1)
}

func (t dialTime) minute() int {
	return t.gone(60) % 60
}

func (t dialTime) second() int {
	return t.gone(secondsOfHour) % 60
}

// gone returns how many whole parts of hours have gone, each hour having so many of them.
func (t dialTime) gone(partsOfHour int) int {
	return t.hours * partsOfHour * t.Num / t.Den
}

func (t dialTime) partOfMinute() Turn {
	return manyTimes(t.Turn, t.hours*60)
}

func (t dialTime) partOfSecond() Turn {
	return manyTimes(t.Turn, t.hours*secondsOfHour)
}

func (t dialTime) text() string {
	s := twoDigits(t.hour()) + ":" + twoDigits(t.minute()) + ":" + twoDigits(t.second())
	if part := t.partOfSecond(); part.Num > 0 {
		s += "+" + strconv.Itoa(part.Num) + "/" + strconv.Itoa(part.Den)
	}
	return s
}

func twoDigits(n int) string {
	if n < 10 {
		return "0" + strconv.Itoa(n)
	}
	return strconv.Itoa(n)
}

func isDial(h int) bool {
	return isWithin(h, MinHours, MaxHours)
}

func isWithin(n int, least int, most int) bool {
	return least <= n && n <= most
}

// manyTimes returns k times a turn. It needs no limit: the Den becomes no greater.
func manyTimes(t Turn, k int) Turn {
	return lowest(t.Num*k, t.Den)
}

// allParts returns all turns, increasing, of which k times is t: k of them, k at least 1. It fails if one is no turn;
// t itself needs no limit.
func allParts(t Turn, k int) ([]Turn, bool) {
	parts := make([]Turn, 0, k)
	for around := range k {
		part, ok := limitedTurn(lowest(around*t.Den+t.Num, k*t.Den))
		if !ok {
			return nil, false
		}
		parts = append(parts, part)
	}
	return parts, true
}

// difference returns a less b, however great its Den is.
func difference(a Turn, b Turn) Turn {
	return lowest(a.Num*b.Den-b.Num*a.Den, a.Den*b.Den)
}

func turnOrder(a Turn, b Turn) int {
	return cmp.Compare(a.Num*b.Den, b.Num*a.Den)
}

// limitedTurn returns a turn that may have too great a Den. It fails if it has.
func limitedTurn(t Turn) (Turn, bool) {
	if t.Den > MaxDen {
		return Turn{}, false
	}
	return t, true
}

// lowest returns num / den without whole turns in lowest terms, den at least 1, however great the Den is.
func lowest(num int, den int) Turn {
	num %= den
	if num < 0 {
		num += den
	}
	divisor := commonDivisor(num, den)
	return Turn{num / divisor, den / divisor}
}

// commonDivisor returns the greatest common divisor of two numbers of which none is less than 0, and not both are 0.
func commonDivisor[N ~int](a N, b N) N {
	for b != 0 {
		a, b = b, a%b
	}
	return a
}
