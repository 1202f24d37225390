package tests

import (
	"fmt"
	"math"
	"slices"
	"testing"

	"loop.example/g01241/impl"
)

// noHeard are lists that are no lists of numbers that are heard, each in its own way.
var noHeard = [][]int{
	nil, {}, {0}, {25}, {-1}, {math.MinInt}, {math.MaxInt}, {1, 0}, {0, 1}, {1, 1, 25}, {25, 1, 1}, {1, -1, 1},
	slices.Repeat([]int{1}, 61), slices.Repeat([]int{24}, 1000),
	append(slices.Repeat([]int{1}, 59), 0), append(slices.Repeat([]int{1}, 59), 25),
}

func noHalves(h int) []int {
	return []int{math.MinInt, -2 * h, -1, 2 * h, 2*h + 1, math.MaxInt}
}

func everyDial(try func(h int)) {
	for h := impl.MinHours; h <= impl.MaxHours; h++ {
		try(h)
	}
}

// struckBy is an independent list of what is struck at the halves from a top on, going around a few times.
func struckBy(h int, times int) []int {
	var list []int
	for range times {
		list = append(list, h, 1)
		for hour := 1; hour < h; hour++ {
			list = append(list, hour, 1)
		}
	}
	return list
}

func sumOf(numbers []int) int {
	sum := 0
	for _, n := range numbers {
		sum += n
	}
	return sum
}

// halvesLeft is an independent HalvesOfHeard.
func halvesLeft(h int, heard []int) []int {
	struck := struckBy(h, 2+len(heard)/(2*h))
	var halves []int
	for half := range 2 * h {
		if slices.Equal(struck[half:half+len(heard)], heard) {
			halves = append(halves, half)
		}
	}
	return halves
}

// known is an independent KnownAfter.
func known(h int, half int) int {
	struck := struckBy(h, 3)
	count := 1
	for len(halvesLeft(h, struck[half:half+count])) > 1 {
		count++
	}
	return count
}

func wantTwo(t *testing.T, what string, a int, b int, ok bool, wantA int, wantB int, wantOk bool) {
	t.Helper()
	wantResult(t, what, [2]int{a, b}, ok, [2]int{wantA, wantB}, wantOk)
}

func TestConstantsOfStrokes(t *testing.T) {
	if impl.MaxHeard != 60 || impl.MaxStruck != 1000000000 {
		t.Error("constants", impl.MaxHeard, impl.MaxStruck)
	}
}

func TestStrokesAt(t *testing.T) {
	for h, want := range map[int][]int{
		2:  {2, 1, 1, 1},
		3:  {3, 1, 1, 1, 2, 1},
		12: {12, 1, 1, 1, 2, 1, 3, 1, 4, 1, 5, 1, 6, 1, 7, 1, 8, 1, 9, 1, 10, 1, 11, 1},
	} {
		for half, strokes := range want {
			n, ok := impl.StrokesAt(h, half)
			wantResult(t, fmt.Sprintf("StrokesAt %d of %d hours", half, h), n, ok, strokes, true)
		}
	}
	everyDial(func(h int) {
		for half, strokes := range struckBy(h, 1) {
			n, ok := impl.StrokesAt(h, half)
			wantResult(t, fmt.Sprintf("StrokesAt %d of %d hours", half, h), n, ok, strokes, true)
		}
		for _, half := range noHalves(h) {
			n, ok := impl.StrokesAt(h, half)
			wantFailure(t, fmt.Sprintf("StrokesAt %d of %d hours", half, h), n, ok)
		}
	})
}

func TestStrokesOfTurn(t *testing.T) {
	for h, want := range map[int]int{2: 5, 3: 9, 12: 90, 24: 324} {
		n, ok := impl.StrokesOfTurn(h)
		wantResult(t, fmt.Sprintf("StrokesOfTurn of %d hours", h), n, ok, want, true)
	}
	everyDial(func(h int) {
		n, ok := impl.StrokesOfTurn(h)
		wantResult(t, fmt.Sprintf("StrokesOfTurn of %d hours", h), n, ok, sumOf(struckBy(h, 1)), true)
	})
}

func TestStrokesBetween(t *testing.T) {
	everyDial(func(h int) {
		struck := struckBy(h, 4)
		for from := range struck {
			sum := 0
			for to := from; to < len(struck); to++ {
				sum += struck[to]
				n, ok := impl.StrokesBetween(h, from, to)
				wantResult(t, fmt.Sprintf("StrokesBetween %d and %d of %d hours", from, to, h), n, ok, sum, true)
			}
			for to := range from {
				n, ok := impl.StrokesBetween(h, from, to)
				wantResult(t, fmt.Sprintf("StrokesBetween %d and %d of %d hours", from, to, h), n, ok, 0, true)
			}
		}
	})
}

func TestStrokesBetweenAtTheLimits(t *testing.T) {
	for _, c := range []struct {
		h, from, to, want int
		ok                bool
	}{
		{12, 0, 0, 12, true}, {12, 1, 1, 1, true}, {12, 23, 24, 13, true}, {12, 24, 24, 12, true}, {12, 22, 25, 25, true}, {12, 25, 24, 0, true},
		{2, 0, 1000000, 5*250000 + 2, true}, {2, 1000000, 1000000, 2, true}, {2, 999997, 1000000, 5, true}, {2, 999999, 1000000, 3, true},
		// 1000000 is 41666 times 24 and 16: the hour 8 is struck last.
		{12, 0, 1000000, 41666*90 + 12 + 36 + 8, true}, {12, 1000000, 1000000, 8, true}, {12, 1000000, 999999, 0, true}, {12, 1000000, 0, 0, true},
		// 1000000 is 20833 times 48 and 16.
		{24, 0, 1000000, 20833*324 + 24 + 36 + 8, true}, {24, 48, 1000000, 20832*324 + 24 + 36 + 8, true},
		{12, 0, 1000001, 0, false}, {12, 1000001, 1000001, 0, false}, {12, 1000001, 0, 0, false}, {12, -1, 0, 0, false}, {12, 0, -1, 0, false}, {12, -1, -1, 0, false},
		{12, math.MinInt, math.MaxInt, 0, false}, {12, math.MaxInt, math.MinInt, 0, false}, {12, 0, math.MaxInt, 0, false}, {12, 5, math.MinInt, 0, false},
	} {
		n, ok := impl.StrokesBetween(c.h, c.from, c.to)
		wantResult(t, fmt.Sprintf("StrokesBetween %d and %d of %d hours", c.from, c.to, c.h), n, ok, c.want, c.ok)
	}
}

func TestStrokesAddUp(t *testing.T) {
	numbers := []int{0, 1, 2, 3, 23, 24, 25, 47, 48, 49, 1000, 99999, 499999, 500000, 999998, 999999}
	everyDial(func(h int) {
		for i, from := range numbers {
			for _, middle := range numbers[i:] {
				a, ok := impl.StrokesBetween(h, from, middle)
				b, okB := impl.StrokesBetween(h, middle+1, 1000000)
				all, okAll := impl.StrokesBetween(h, from, 1000000)
				wantResult(t, fmt.Sprintf("strokes from %d to %d and on, of %d hours", from, middle, h), a+b, ok && okB && okAll, all, true)
			}
		}
	})
}

func TestStrokeNumber(t *testing.T) {
	everyDial(func(h int) {
		n := 0
		for half, strokes := range struckBy(h, 3) {
			for stroke := 1; stroke <= strokes; stroke++ {
				n++
				got, which, ok := impl.StrokeNumber(h, n)
				wantTwo(t, fmt.Sprintf("StrokeNumber %d of %d hours", n, h), got, which, ok, half, stroke, true)
			}
		}
		for _, n := range []int{0, -1, math.MinInt, impl.MaxStruck + 1, math.MaxInt} {
			half, stroke, ok := impl.StrokeNumber(h, n)
			wantTwo(t, fmt.Sprintf("StrokeNumber %d of %d hours", n, h), half, stroke, ok, 0, 0, false)
		}
	})
}

func TestStrokeNumberOfManyStrokes(t *testing.T) {
	for _, c := range []struct{ h, n, half, stroke int }{
		{2, impl.MaxStruck, 799999999, 1}, {2, impl.MaxStruck - 4, 799999996, 1}, {2, impl.MaxStruck - 3, 799999996, 2}, {2, impl.MaxStruck - 5, 799999995, 1},
		// The last strokes of a turn, and the first ones of the next.
		{12, 90, 23, 1}, {12, 91, 24, 1}, {12, 102, 24, 12}, {12, 103, 25, 1},
		// 10^9 is 11111111 times 90 and 10.
		{12, impl.MaxStruck, 11111111 * 24, 10},
		// 10^9 is 3086419 times 324 and 244: 24, 1, 1, 1, .. 19, 1 are 234, and 10 of 20 are left.
		{24, impl.MaxStruck, 3086419*48 + 40, 10},
	} {
		half, stroke, ok := impl.StrokeNumber(c.h, c.n)
		wantTwo(t, fmt.Sprintf("StrokeNumber %d of %d hours", c.n, c.h), half, stroke, ok, c.half, c.stroke, true)
	}
	everyDial(func(h int) {
		for _, number := range []int{1, 47, 48, 5000, 123456, 999999, 1000000} {
			before, ok := impl.StrokesBetween(h, 0, number-1)
			half, stroke, okNumber := impl.StrokeNumber(h, before+1)
			wantTwo(t, fmt.Sprintf("first stroke at %d of %d hours", number, h), half, stroke, ok && okNumber, number, 1, true)
			half, stroke, okNumber = impl.StrokeNumber(h, before)
			last, _ := impl.StrokesAt(h, (number-1)%(2*h))
			wantTwo(t, fmt.Sprintf("last stroke before %d of %d hours", number, h), half, stroke, okNumber, number-1, last, true)
		}
	})
}

func TestHeardFrom(t *testing.T) {
	everyDial(func(h int) {
		struck := struckBy(h, 32)
		for half := range 2 * h {
			for count := 1; count <= impl.MaxHeard; count++ {
				heard, ok := impl.HeardFrom(h, half, count)
				wantList(t, fmt.Sprintf("HeardFrom %d at %d halves of %d hours", half, count, h), heard, ok, struck[half:half+count], true)
			}
			for _, count := range []int{math.MinInt, -1, 0, 61, 1000, math.MaxInt} {
				heard, ok := impl.HeardFrom(h, half, count)
				wantList(t, fmt.Sprintf("HeardFrom %d at %d halves of %d hours", half, count, h), heard, ok, nil, false)
			}
		}
		for _, half := range noHalves(h) {
			heard, ok := impl.HeardFrom(h, half, 1)
			wantList(t, fmt.Sprintf("HeardFrom %d of %d hours", half, h), heard, ok, nil, false)
		}
	})
}

// checkHeard compares what is told of a list with the independent halves from which it is struck.
func checkHeard(t *testing.T, h int, heard []int) {
	t.Helper()
	want := halvesLeft(h, heard)
	halves, ok := impl.HalvesOfHeard(h, heard)
	wantList(t, fmt.Sprintf("HalvesOfHeard %v of %d hours", heard, h), halves, ok, want, true)
	is, ok := impl.IsHeard(h, heard)
	wantResult(t, fmt.Sprintf("IsHeard %v of %d hours", heard, h), is, ok, len(want) > 0, true)
	var wantNext []int
	for number := 1; number <= h; number++ {
		if len(halvesLeft(h, append(slices.Clone(heard), number))) > 0 {
			wantNext = append(wantNext, number)
		}
	}
	next, ok := impl.NextHeard(h, heard)
	wantList(t, fmt.Sprintf("NextHeard behind %v of %d hours", heard, h), next, ok, wantNext, true)
}

func TestHeard(t *testing.T) {
	everyDial(func(h int) {
		for number := 1; number <= impl.MaxHours; number++ {
			checkHeard(t, h, []int{number})
			for next := 1; next <= impl.MaxHours; next++ {
				checkHeard(t, h, []int{number, next})
			}
		}
		struck := struckBy(h, 32)
		for half := range 2 * h {
			for _, count := range []int{3, 4, 2 * h, 2*h + 1, 59, 60} {
				heard := slices.Clone(struck[half : half+count])
				checkHeard(t, h, heard)
				heard[count-1] = heard[count-1]%h + 1
				checkHeard(t, h, heard)
				heard[count-1], heard[0] = struck[half+count-1], heard[0]%impl.MaxHours+1
				checkHeard(t, h, heard)
			}
		}
	})
}

func TestHeardOfOneClock(t *testing.T) {
	for _, c := range []struct {
		h                    int
		heard, halves, comes []int
	}{
		{12, []int{1}, []int{1, 2, 3, 5, 7, 9, 11, 13, 15, 17, 19, 21, 23}, []int{1, 2, 3, 4, 5, 6, 7, 8, 9, 10, 11, 12}},
		{12, []int{12}, []int{0}, []int{1}}, {12, []int{2}, []int{4}, []int{1}}, {12, []int{1, 12}, []int{23}, []int{1}}, {12, []int{1, 1}, []int{1, 2}, []int{1, 2}},
		{12, []int{12, 1}, []int{0}, []int{1}}, {12, []int{1, 2, 1}, []int{3}, []int{3}}, {12, []int{11, 1, 12, 1, 1, 1, 2}, []int{22}, []int{1}},
		{2, []int{1}, []int{1, 2, 3}, []int{1, 2}}, {2, []int{1, 1}, []int{1, 2}, []int{1, 2}}, {2, []int{1, 2, 1}, []int{3}, []int{1}},
		{24, []int{24}, []int{0}, []int{1}}, {24, []int{23}, []int{46}, []int{1}}, {24, []int{1, 24}, []int{47}, []int{1}},
		// No clock of so many hours strikes these.
		{12, []int{24}, nil, nil}, {12, []int{13}, nil, nil}, {2, []int{3}, nil, nil}, {23, []int{24}, nil, nil}, {12, []int{1, 1, 1, 1}, nil, nil}, {12, []int{2, 2}, nil, nil},
		{12, []int{12, 12}, nil, nil}, {12, []int{12, 2}, nil, nil}, {12, []int{2, 1, 2}, nil, nil}, {12, []int{3, 1, 2}, nil, nil}, {12, slices.Repeat([]int{1}, 60), nil, nil},
	} {
		what := fmt.Sprintf("of %v heard of %d hours", c.heard, c.h)
		halves, ok := impl.HalvesOfHeard(c.h, c.heard)
		wantList(t, "halves "+what, halves, ok, c.halves, true)
		is, ok := impl.IsHeard(c.h, c.heard)
		wantResult(t, "IsHeard "+what, is, ok, c.halves != nil, true)
		next, ok := impl.NextHeard(c.h, c.heard)
		wantList(t, "next "+what, next, ok, c.comes, true)
	}
}

func TestHeardLeavesTheHalf(t *testing.T) {
	everyDial(func(h int) {
		for half := range 2 * h {
			for count := 1; count <= impl.MaxHeard; count++ {
				what := fmt.Sprintf("%d halves from %d on, of %d hours", count, half, h)
				heard, _ := impl.HeardFrom(h, half, count)
				halves, ok := impl.HalvesOfHeard(h, heard)
				after, okAfter := impl.KnownAfter(h, half)
				if !ok || !okAfter || !slices.Contains(halves, half) {
					t.Errorf("what is heard at %s leaves %v, %v, %v", what, halves, ok, okAfter)
				}
				if (len(halves) == 1) != (count >= after) {
					t.Errorf("what is heard at %s leaves %v, and is known after %d", what, halves, after)
				}
				next, ok := impl.NextHeard(h, heard)
				comes, _ := impl.StrokesAt(h, (half+count)%(2*h))
				if !ok || !slices.Contains(next, comes) {
					t.Errorf("behind %s come %v, %v, but %d is struck", what, next, ok, comes)
				}
			}
		}
	})
}

func TestNoHeard(t *testing.T) {
	everyDial(func(h int) {
		for _, heard := range noHeard {
			checkNoHeard(t, h, heard)
		}
	})
}

func checkNoHeard(t *testing.T, h int, heard []int) {
	t.Helper()
	what := fmt.Sprintf(" of %v of %d hours", heard, h)
	halves, ok := impl.HalvesOfHeard(h, heard)
	wantList(t, "HalvesOfHeard"+what, halves, ok, nil, false)
	is, ok := impl.IsHeard(h, heard)
	wantFailure(t, "IsHeard"+what, is, ok)
	next, ok := impl.NextHeard(h, heard)
	wantList(t, "NextHeard"+what, next, ok, nil, false)
}

func TestKnownAfter(t *testing.T) {
	for h, want := range map[int][]int{
		2:  {1, 3, 3, 2},
		3:  {1, 3, 3, 2, 1, 2},
		12: {1, 3, 3, 2, 1, 2, 1, 2, 1, 2, 1, 2, 1, 2, 1, 2, 1, 2, 1, 2, 1, 2, 1, 2},
	} {
		for half, count := range want {
			n, ok := impl.KnownAfter(h, half)
			wantResult(t, fmt.Sprintf("KnownAfter %d of %d hours", half, h), n, ok, count, true)
		}
	}
	everyDial(func(h int) {
		var longest []int
		most := 0
		for half := range 2 * h {
			n, ok := impl.KnownAfter(h, half)
			wantResult(t, fmt.Sprintf("KnownAfter %d of %d hours", half, h), n, ok, known(h, half), true)
			most = max(most, known(h, half))
		}
		for half := range 2 * h {
			if known(h, half) == most {
				longest = append(longest, half)
			}
		}
		halves, count, ok := impl.LongestUnknown(h)
		wantList(t, fmt.Sprintf("LongestUnknown of %d hours", h), halves, ok, longest, true)
		wantResult(t, fmt.Sprintf("LongestUnknown of %d hours takes", h), count, ok, most, true)
		for _, half := range noHalves(h) {
			n, ok := impl.KnownAfter(h, half)
			wantFailure(t, fmt.Sprintf("KnownAfter %d of %d hours", half, h), n, ok)
		}
	})
	halves, count, ok := impl.LongestUnknown(12)
	wantList(t, "LongestUnknown", halves, ok, []int{1, 2}, true)
	wantResult(t, "LongestUnknown takes", count, ok, 3, true)
}

func TestWheel(t *testing.T) {
	everyDial(func(h int) {
		struck := struckBy(h, 2)
		for wheel := range 2 * h {
			for steps := range 2 * h {
				half := (wheel + steps) % (2 * h)
				n, ok := impl.StepsBack(h, half, wheel)
				wantResult(t, fmt.Sprintf("StepsBack to %d from %d of %d hours", half, wheel, h), n, ok, steps, true)
				n, ok = impl.StrokesToMend(h, half, wheel)
				wantResult(t, fmt.Sprintf("StrokesToMend to %d from %d of %d hours", half, wheel, h), n, ok, sumOf(struck[wheel+1:wheel+1+steps]), true)
			}
			for _, half := range noHalves(h) {
				checkNoWheel(t, h, half, wheel)
				checkNoWheel(t, h, wheel, half)
				checkNoWheel(t, h, half, half)
			}
		}
	})
	for _, c := range [][4]int{{0, 0, 0, 0}, {23, 23, 0, 0}, {0, 23, 1, 12}, {23, 0, 23, 78}, {1, 0, 1, 1}, {0, 1, 23, 89}, {2, 2, 0, 0}, {4, 3, 1, 2}, {3, 4, 23, 88}} {
		n, ok := impl.StepsBack(12, c[0], c[1])
		wantResult(t, fmt.Sprintf("StepsBack to %d from %d", c[0], c[1]), n, ok, c[2], true)
		n, ok = impl.StrokesToMend(12, c[0], c[1])
		wantResult(t, fmt.Sprintf("StrokesToMend to %d from %d", c[0], c[1]), n, ok, c[3], true)
	}
}

func checkNoWheel(t *testing.T, h int, half int, wheel int) {
	t.Helper()
	n, ok := impl.StepsBack(h, half, wheel)
	wantFailure(t, fmt.Sprintf("StepsBack to %d from %d of %d hours", half, wheel, h), n, ok)
	n, ok = impl.StrokesToMend(h, half, wheel)
	wantFailure(t, fmt.Sprintf("StrokesToMend to %d from %d of %d hours", half, wheel, h), n, ok)
}

func TestHalfOfWheel(t *testing.T) {
	everyDial(func(h int) {
		turn := sumOf(struckBy(h, 1))
		n := 0
		for number, strokes := range struckBy(h, 3)[1:] {
			half, ok := impl.HalfOfWheel(h, n)
			wantResult(t, fmt.Sprintf("HalfOfWheel behind %d strokes of %d hours", n, h), half, ok, number%(2*h), true)
			for range strokes {
				n++
				half, ok = impl.HalfOfWheel(h, n)
				wantResult(t, fmt.Sprintf("HalfOfWheel behind %d strokes of %d hours", n, h), half, ok, (number+1)%(2*h), true)
			}
		}
		for _, n := range []int{impl.MaxStruck, impl.MaxStruck - 1, impl.MaxStruck - turn, 123456789, impl.MaxStruck / turn * turn, impl.MaxStruck/turn*turn - 1} {
			want, _ := impl.HalfOfWheel(h, n%turn)
			half, ok := impl.HalfOfWheel(h, n)
			wantResult(t, fmt.Sprintf("HalfOfWheel behind %d strokes of %d hours", n, h), half, ok, want, true)
		}
		for _, n := range []int{-1, math.MinInt, impl.MaxStruck + 1, math.MaxInt} {
			half, ok := impl.HalfOfWheel(h, n)
			wantFailure(t, fmt.Sprintf("HalfOfWheel behind %d strokes of %d hours", n, h), half, ok)
		}
	})
	// 78 strokes are those of the halves 1..23, and 79..90 those of the next top. MaxStruck is 11111111 times 90 and 10.
	for n, want := range map[int]int{0: 0, 1: 1, 2: 2, 3: 3, 4: 4, 5: 4, 6: 5, 7: 6, 9: 6, 10: 7, 77: 22, 78: 23, 79: 0, 90: 0, 91: 1, impl.MaxStruck: 7} {
		half, ok := impl.HalfOfWheel(12, n)
		wantResult(t, fmt.Sprintf("HalfOfWheel behind %d strokes", n), half, ok, want, true)
	}
}

// TestWheelIsMended lets the wheel off as often as told, and it stands where the strokes that are heard tell.
func TestWheelIsMended(t *testing.T) {
	everyDial(func(h int) {
		for half := range 2 * h {
			struck, ok := impl.StrokesToMend(h, half, 0)
			stands, okStands := impl.HalfOfWheel(h, struck)
			wantResult(t, fmt.Sprintf("half of %d hours to which the wheel is let off", h), stands, ok && okStands, half, true)
			steps, ok := impl.StepsBack(h, half, 0)
			between, okBetween := impl.StrokesBetween(h, 1, steps)
			wantResult(t, fmt.Sprintf("strokes of %d hours to %d", h, half), between, ok && okBetween, struck, true)
		}
	})
}

func TestWaitForStrokes(t *testing.T) {
	everyDial(func(h int) {
		struck := struckBy(h, 2)
		for half := range 2 * h {
			for strokes := 1; strokes <= h; strokes++ {
				n, ok := impl.WaitForStrokes(h, half, strokes)
				wantResult(t, fmt.Sprintf("WaitForStrokes %d from %d of %d hours", strokes, half, h), n, ok, slices.Index(struck[half:], strokes), true)
			}
			for _, strokes := range []int{math.MinInt, -1, 0, h + 1, math.MaxInt} {
				n, ok := impl.WaitForStrokes(h, half, strokes)
				wantFailure(t, fmt.Sprintf("WaitForStrokes %d from %d of %d hours", strokes, half, h), n, ok)
			}
		}
		for _, half := range noHalves(h) {
			n, ok := impl.WaitForStrokes(h, half, 1)
			wantFailure(t, fmt.Sprintf("WaitForStrokes from %d of %d hours", half, h), n, ok)
		}
	})
	for _, c := range [][3]int{{0, 12, 0}, {1, 12, 23}, {23, 12, 1}, {0, 1, 1}, {2, 1, 0}, {4, 1, 1}, {4, 2, 0}, {5, 2, 23}, {0, 11, 22}, {3, 3, 3}} {
		n, ok := impl.WaitForStrokes(12, c[0], c[1])
		wantResult(t, fmt.Sprintf("WaitForStrokes %d from %d", c[1], c[0]), n, ok, c[2], true)
	}
}

func TestMostInHalves(t *testing.T) {
	everyDial(func(h int) {
		struck := struckBy(h, 2)
		for halves := 1; halves <= 2*h; halves++ {
			var sums []int
			for half := range 2 * h {
				sums = append(sums, sumOf(struck[half:half+halves]))
			}
			half, most, ok := impl.MostInHalves(h, halves)
			wantTwo(t, fmt.Sprintf("MostInHalves %d of %d hours", halves, h), half, most, ok, slices.Index(sums, slices.Max(sums)), slices.Max(sums), true)
		}
		for _, halves := range []int{math.MinInt, -1, 0, 2*h + 1, 60, math.MaxInt} {
			half, most, ok := impl.MostInHalves(h, halves)
			wantTwo(t, fmt.Sprintf("MostInHalves %d of %d hours", halves, h), half, most, ok, 0, 0, false)
		}
	})
	for _, c := range [][4]int{{12, 1, 0, 12}, {12, 2, 0, 13}, {12, 3, 22, 24}, {12, 4, 21, 25}, {12, 24, 0, 90}, {12, 23, 0, 89}, {2, 1, 0, 2}, {2, 2, 0, 3}, {2, 3, 0, 4}, {2, 4, 0, 5}, {24, 48, 0, 324}} {
		half, most, ok := impl.MostInHalves(c[0], c[1])
		wantTwo(t, fmt.Sprintf("MostInHalves %d of %d hours", c[1], c[0]), half, most, ok, c[2], c[3], true)
	}
}

func TestCountHeardOnce(t *testing.T) {
	for h, want := range map[int]int{2: 1, 3: 2, 12: 11, 24: 23} {
		n, ok := impl.CountHeardOnce(h)
		wantResult(t, fmt.Sprintf("CountHeardOnce of %d hours", h), n, ok, want, true)
	}
	everyDial(func(h int) {
		want := 0
		for number := 1; number <= h; number++ {
			if len(halvesLeft(h, []int{number})) == 1 {
				want++
			}
		}
		n, ok := impl.CountHeardOnce(h)
		wantResult(t, fmt.Sprintf("CountHeardOnce of %d hours", h), n, ok, want, true)
	})
}

func TestStrokesOfNoDials(t *testing.T) {
	for _, h := range noDials {
		of := func(name string) string { return fmt.Sprintf("%s of %d hours", name, h) }
		for name, call := range map[string]func() (int, bool){
			"StrokesAt":      func() (int, bool) { return impl.StrokesAt(h, 0) },
			"StrokesOfTurn":  func() (int, bool) { return impl.StrokesOfTurn(h) },
			"StrokesBetween": func() (int, bool) { return impl.StrokesBetween(h, 0, 1) },
			"to less":        func() (int, bool) { return impl.StrokesBetween(h, 1, 0) },
			"KnownAfter":     func() (int, bool) { return impl.KnownAfter(h, 0) },
			"StepsBack":      func() (int, bool) { return impl.StepsBack(h, 1, 0) },
			"StrokesToMend":  func() (int, bool) { return impl.StrokesToMend(h, 1, 0) },
			"at the half":    func() (int, bool) { return impl.StepsBack(h, 0, 0) },
			"HalfOfWheel":    func() (int, bool) { return impl.HalfOfWheel(h, 1) },
			"WaitForStrokes": func() (int, bool) { return impl.WaitForStrokes(h, 0, 1) },
			"CountHeardOnce": func() (int, bool) { return impl.CountHeardOnce(h) },
		} {
			n, ok := call()
			wantFailure(t, of(name), n, ok)
		}
		half, stroke, ok := impl.StrokeNumber(h, 1)
		wantTwo(t, of("StrokeNumber"), half, stroke, ok, 0, 0, false)
		half, most, ok := impl.MostInHalves(h, 1)
		wantTwo(t, of("MostInHalves"), half, most, ok, 0, 0, false)
		heard, ok := impl.HeardFrom(h, 0, 1)
		wantList(t, of("HeardFrom"), heard, ok, nil, false)
		checkNoHeard(t, h, []int{1})
		halves, count, ok := impl.LongestUnknown(h)
		wantList(t, of("LongestUnknown"), halves, ok, nil, false)
		wantFailure(t, of("LongestUnknown"), count, ok)
	}
}

func TestExampleOfStrokes(t *testing.T) {
	n, ok := impl.StrokesOfTurn(12)
	wantResult(t, "StrokesOfTurn", n, ok, 90, true)
	halves, ok := impl.HalvesOfHeard(12, []int{1, 1, 1})
	wantList(t, "HalvesOfHeard", halves, ok, []int{1}, true)
	heard, ok := impl.HeardFrom(12, 1, 3)
	wantList(t, "HeardFrom", heard, ok, []int{1, 1, 1}, true)
	n, ok = impl.KnownAfter(12, 3)
	wantResult(t, "KnownAfter", n, ok, 2, true)
	heard, ok = impl.HeardFrom(12, 3, 2)
	wantList(t, "HeardFrom", heard, ok, []int{1, 2}, true)
	n, ok = impl.StepsBack(12, 2, 3)
	wantResult(t, "StepsBack", n, ok, 23, true)
	n, ok = impl.StrokesToMend(12, 2, 3)
	wantResult(t, "StrokesToMend", n, ok, 89, true)
}
