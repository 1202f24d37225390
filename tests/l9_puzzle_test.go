package tests

import (
	"fmt"
	"math"
	"slices"
	"strings"
	"testing"

	"loop.example/g01241/impl"
)

func clue(kind int, a int, b int) impl.Clue {
	return impl.Clue{Kind: kind, A: a, B: b}
}

func puzzle(h int, clues ...impl.Clue) impl.Puzzle {
	return impl.Puzzle{Hours: h, Clues: clues}
}

// parsed reads a PuzzleText. It does not need the program to do so, and takes clues and dials that are none, too.
func parsed(text string) impl.Puzzle {
	var p impl.Puzzle
	hours, behind, _ := strings.Cut(text, ":")
	fmt.Sscan(hours, &p.Hours)
	for _, part := range strings.FieldsFunc(behind, func(r rune) bool { return r == ',' }) {
		var c impl.Clue
		fmt.Sscanf(part, "%d.%d.%d", &c.Kind, &c.A, &c.B)
		p.Clues = append(p.Clues, c)
	}
	return p
}

// textOf is an independent PuzzleText for all puzzles, also those that are none.
func textOf(p impl.Puzzle) string {
	text := fmt.Sprint(p.Hours, ":")
	for i, c := range p.Clues {
		if i > 0 {
			text += ","
		}
		text += fmt.Sprintf("%d.%d.%d", c.Kind, c.A, c.B)
	}
	return strings.ReplaceAll(text, " ", "")
}

// minuteTold is what a dial tells at a minute.
type minuteTold struct {
	hour, minute, next int
	digits             string
	isAhead            bool
}

// goAround goes around a dial once, minute by minute, and tells of each one.
func goAround(h int) []minuteTold {
	var list []minuteTold
	// Places are counted in minutes of the short hand: the long one goes on by h of them in each minute.
	around, short, long := 60*h, 0, 0
	for hour := range h {
		for minute := range 60 {
			gap := long - short
			if gap < 0 {
				gap += around
			}
			list = append(list, minuteTold{hour, minute, hour + 1, fmt.Sprintf("%02d%02d", hour, minute), gap+gap < around})
			short++
			if long += h; long >= around {
				long -= around
			}
		}
	}
	return list
}

// fits is an independent DoesFit for clues and minutes.
func fits(told minuteTold, c impl.Clue) bool {
	switch c.Kind {
	case 0:
		return told.hour == c.A
	case 1:
		return (told.minute-c.B)%c.A == 0
	case 2:
		sum := 0
		for _, digit := range told.digits {
			sum += int(digit - '0')
		}
		return sum == c.A
	case 3:
		return told.isAhead == (c.A == 1)
	case 4:
		return told.next == c.A
	}
	return told.hour == told.minute+c.A || told.minute == told.hour+c.A
}

// solutionsOf is an independent Solutions.
func solutionsOf(p impl.Puzzle) []int {
	var minutes []int
next:
	for minute, told := range goAround(p.Hours) {
		for _, c := range p.Clues {
			if !fits(told, c) {
				continue next
			}
		}
		minutes = append(minutes, minute)
	}
	return minutes
}

// cluesOf are all clues of a dial.
func cluesOf(h int) []impl.Clue {
	var clues []impl.Clue
	for a := range h {
		clues = append(clues, clue(0, a, 0), clue(4, a+1, 0))
	}
	for a := 2; a <= 60; a++ {
		for b := range a {
			clues = append(clues, clue(1, a, b))
		}
	}
	for a := range 31 {
		clues = append(clues, clue(2, a, 0))
	}
	for a := range 60 {
		clues = append(clues, clue(5, a, 0))
	}
	return append(clues, clue(3, 0, 0), clue(3, 1, 0))
}

// noCluesOf are clues that are none of a dial, each in its own way.
func noCluesOf(h int) []impl.Clue {
	least, most := math.MinInt, math.MaxInt
	return []impl.Clue{
		clue(-1, 0, 0), clue(6, 0, 0), clue(-1, 1, 0), clue(6, 1, 0), clue(7, 1, 0), clue(-6, 0, 0), clue(least, 0, 0), clue(most, 1, 0), clue(most, most, most), clue(least, least, least),
		clue(0, -1, 0), clue(0, h, 0), clue(0, 0, 1), clue(0, 0, -1), clue(0, h-1, 1), clue(0, least, 0), clue(0, most, 0), clue(0, 0, least),
		clue(1, 1, 0), clue(1, 0, 0), clue(1, -1, 0), clue(1, -2, -1), clue(1, 61, 0), clue(1, 61, 60), clue(1, 2, 2), clue(1, 2, -1), clue(1, 60, 60), clue(1, 60, -1), clue(1, 15, 15), clue(1, least, 0),
		clue(1, most, 0), clue(1, least, most), clue(1, 2, most), clue(1, 2, least), clue(1, 60, least),
		clue(2, -1, 0), clue(2, 31, 0), clue(2, 0, 1), clue(2, 30, -1), clue(2, 9, 9), clue(2, most, 0), clue(2, least, 0),
		clue(3, -1, 0), clue(3, 2, 0), clue(3, 0, 1), clue(3, 1, 1), clue(3, 1, -1), clue(3, most, 0), clue(3, least, 0),
		clue(4, 0, 0), clue(4, h+1, 0), clue(4, -1, 0), clue(4, 1, 1), clue(4, h, -1), clue(4, most, 0), clue(4, least, 0),
		clue(5, -1, 0), clue(5, 60, 0), clue(5, 0, 1), clue(5, 59, -1), clue(5, 61, 0), clue(5, most, 0), clue(5, least, 0),
	}
}

func noMinutes(h int) []int {
	return []int{math.MinInt, -60 * h, -60, -1, 60 * h, 60*h + 1, 120 * h, 1440, math.MaxInt}
}

// somePuzzles are puzzles of each dial and each number of clues: half of them with clues that a minute fits, others with any.
func somePuzzles() []impl.Puzzle {
	state := uint32(1)
	next := func(most int) int {
		state = state*1664525 + 1013904223
		return int(state>>12) % most
	}
	var puzzles []impl.Puzzle
	everyDial(func(h int) {
		clues, around := cluesOf(h), goAround(h)
		for count := range impl.MaxClues + 1 {
			for round := range 6 {
				told, p := around[next(len(around))], puzzle(h)
				for len(p.Clues) < count {
					kind := next(6)
					c := clues[next(len(clues))]
					if c.Kind == kind && (round%2 == 0 || fits(told, c)) {
						p.Clues = append(p.Clues, c)
					}
				}
				puzzles = append(puzzles, p)
			}
		}
	})
	for _, text := range []string{
		"12:", "2:", "24:", "12:0.3.0,1.15.0", "12:0.3.0,1.15.0,2.9.0", "12:0.3.0,0.3.0,1.60.15", "12:1.60.15,0.3.0,0.3.0,4.4.0", "12:0.3.0,0.4.0", "12:0.3.0,0.4.0,0.3.0",
		"12:2.30.0", "24:2.24.0", "2:2.15.0", "2:0.1.0,1.60.59,4.2.0,3.0.0,5.58.0,2.15.0", "24:5.59.0,5.59.0,5.59.0,5.59.0,5.59.0,5.59.0", "12:4.12.0,0.11.0", "12:0.11.0,4.12.0,5.11.0",
		"7:3.0.0,1.60.10,0.1.0", "7:3.1.0,1.60.10,0.1.0", "12:3.0.0,5.6.0,2.6.0", "12:3.1.0,5.6.0,2.6.0",
	} {
		puzzles = append(puzzles, parsed(text))
	}
	return puzzles
}

// noPuzzles are puzzles that are none, each in its own way.
func noPuzzles() []impl.Puzzle {
	puzzles := []impl.Puzzle{
		{}, puzzle(12, slices.Repeat([]impl.Clue{clue(3, 1, 0)}, 7)...), puzzle(12, slices.Repeat([]impl.Clue{clue(0, 3, 0)}, 7)...),
		puzzle(12, append(slices.Repeat([]impl.Clue{clue(3, 1, 0)}, 6), impl.Clue{Kind: 6})...), puzzle(24, slices.Repeat([]impl.Clue{clue(0, 1, 0)}, 1000)...),
		puzzle(2, clue(0, 2, 0)), puzzle(12, clue(0, 12, 0)), puzzle(12, clue(4, 13, 0)), puzzle(24, clue(4, 25, 0)), puzzle(2, clue(4, 3, 0)),
	}
	for _, h := range noDials {
		puzzles = append(puzzles, puzzle(h), puzzle(h, clue(3, 1, 0)), puzzle(h, clue(0, 0, 0), clue(1, 60, 15)), puzzle(h, slices.Repeat([]impl.Clue{clue(4, 1, 0)}, 6)...))
	}
	for _, h := range []int{2, 12, 24} {
		for _, c := range noCluesOf(h) {
			puzzles = append(puzzles, puzzle(h, c), puzzle(h, c, clue(0, 1, 0), clue(1, 60, 15)), puzzle(h, clue(0, 1, 0), c, clue(1, 60, 15)), puzzle(h, clue(0, 1, 0), clue(1, 60, 15), c))
			puzzles = append(puzzles, puzzle(h, append(slices.Repeat([]impl.Clue{clue(4, 1, 0)}, 5), c)...))
		}
	}
	return puzzles
}

func wantPuzzle(t *testing.T, what string, got impl.Puzzle, ok bool, want impl.Puzzle, wantOk bool) {
	t.Helper()
	wantList(t, what, got.Clues, ok, want.Clues, wantOk)
	wantResult(t, what, got.Hours, ok, want.Hours, wantOk)
}

func wantNoPuzzle(t *testing.T, what string, got impl.Puzzle, ok bool) {
	t.Helper()
	wantPuzzle(t, what, got, ok, impl.Puzzle{}, false)
}

func TestConstantsOfPuzzles(t *testing.T) {
	if impl.MaxClues != 6 {
		t.Error("MaxClues", impl.MaxClues)
	}
}

func TestExampleOfPuzzles(t *testing.T) {
	p, ok := impl.ParsePuzzle("12:0.3.0,1.15.0")
	wantPuzzle(t, "ParsePuzzle", p, ok, puzzle(12, clue(0, 3, 0), clue(1, 15, 0)), true)
	minutes, ok := impl.Solutions(p)
	wantList(t, "Solutions", minutes, ok, []int{180, 195, 210, 225}, true)
	solved, ok := impl.IsSolved(p)
	wantResult(t, "IsSolved", solved, ok, false, true)
	q, ok := impl.AddClue(p, clue(2, 9, 0))
	wantPuzzle(t, "AddClue", q, ok, puzzle(12, clue(0, 3, 0), clue(1, 15, 0), clue(2, 9, 0)), true)
	solved, ok = impl.IsSolved(q)
	wantResult(t, "IsSolved of one clue more", solved, ok, true, true)
	minute, ok := impl.FirstSolution(q)
	wantResult(t, "FirstSolution", minute, ok, 195, true)
	left, ok := impl.LeftByClues(q)
	wantList(t, "LeftByClues", left, ok, []int{720, 60, 4, 1}, true)
	text, ok := impl.PuzzleText(q)
	wantResult(t, "PuzzleText", text, ok, "12:0.3.0,1.15.0,2.9.0", true)
}

// TestIsClue tries all numbers around those that a clue may have.
func TestIsClue(t *testing.T) {
	everyDial(func(h int) {
		valid := map[impl.Clue]bool{}
		for _, c := range cluesOf(h) {
			valid[c] = true
		}
		for kind := -2; kind <= 8; kind++ {
			for a := -3; a <= 63; a++ {
				for b := -3; b <= 63; b++ {
					if c := clue(kind, a, b); impl.IsClue(h, c) != valid[c] {
						t.Errorf("IsClue of %d and %v is not %v", h, c, valid[c])
					}
				}
			}
		}
		for _, c := range noCluesOf(h) {
			if impl.IsClue(h, c) {
				t.Errorf("IsClue of %d and %v", h, c)
			}
		}
	})
	for _, h := range noDials {
		for _, c := range cluesOf(24) {
			if impl.IsClue(h, c) {
				t.Errorf("IsClue of %d and %v", h, c)
			}
		}
	}
}

func TestIsClueInTable(t *testing.T) {
	for _, c := range []struct {
		kind, least, most int
	}{{0, 0, 11}, {2, 0, 30}, {3, 0, 1}, {4, 1, 12}, {5, 0, 59}} {
		for a, want := range map[int]bool{c.least - 1: false, c.least: true, c.most: true, c.most + 1: false} {
			wantResult(t, fmt.Sprintf("IsClue of kind %d and %d", c.kind, a), impl.IsClue(12, clue(c.kind, a, 0)), true, want, true)
			wantResult(t, fmt.Sprintf("IsClue of kind %d and %d with a B", c.kind, a), impl.IsClue(12, clue(c.kind, a, 1)), true, false, true)
		}
	}
	for a, want := range map[int]bool{1: false, 2: true, 60: true, 61: false} {
		for b, within := range map[int]bool{-1: false, 0: true, a - 1: a > 0, a: false} {
			wantResult(t, fmt.Sprintf("IsClue of kind 1, %d and %d", a, b), impl.IsClue(12, clue(1, a, b)), true, want && within, true)
		}
	}
}

func TestIsPuzzle(t *testing.T) {
	for _, p := range somePuzzles() {
		if !impl.IsPuzzle(p) {
			t.Error("no puzzle", p)
		}
	}
	for _, p := range noPuzzles() {
		if impl.IsPuzzle(p) {
			t.Errorf("a puzzle: %.100v", p)
		}
	}
	for h := -2; h <= 30; h++ {
		for count := range 12 {
			p := puzzle(h, slices.Repeat([]impl.Clue{clue(0, 1, 0)}, count)...)
			wantResult(t, "IsPuzzle of "+textOf(p), impl.IsPuzzle(p), true, h >= 2 && h <= 24 && count <= 6, true)
		}
	}
}

// TestDoesFit tries all clues of some dials at all minutes.
func TestDoesFit(t *testing.T) {
	for _, h := range []int{2, 3, 7, 12, 24} {
		around := goAround(h)
		for _, c := range cluesOf(h) {
			for minute, told := range around {
				fit, ok := impl.DoesFit(h, c, minute)
				if fit != fits(told, c) || !ok {
					t.Errorf("DoesFit of %d, %v and %d: got %v, %v", h, c, minute, fit, ok)
				}
			}
			for _, minute := range noMinutes(h) {
				fit, ok := impl.DoesFit(h, c, minute)
				wantFailure(t, fmt.Sprint("DoesFit ", h, c, minute), fit, ok)
			}
		}
	}
}

// TestAheadOnAllDials goes around all dials, as just 1 / 2 is between two minutes on most of them.
func TestAheadOnAllDials(t *testing.T) {
	everyDial(func(h int) {
		for minute, told := range goAround(h) {
			for a, want := range map[int]bool{0: !told.isAhead, 1: told.isAhead} {
				fit, ok := impl.DoesFit(h, clue(3, a, 0), minute)
				wantResult(t, fmt.Sprintf("DoesFit %d, 3.%d.0 and %d", h, a, minute), fit, ok, want, true)
			}
		}
	})
}

func TestDoesFitInTable(t *testing.T) {
	for _, c := range []struct {
		h, minute int
		fit, not  string
	}{
		{12, 0, "0.0.0 1.2.0 1.60.0 2.0.0 3.1.0 4.1.0 5.0.0", "0.1.0 0.11.0 1.2.1 1.60.59 2.1.0 3.0.0 4.12.0 4.2.0 5.1.0"},
		{12, 719, "0.11.0 1.2.1 1.60.59 1.59.0 2.16.0 3.0.0 4.12.0 5.48.0", "0.0.0 1.60.0 2.0.0 3.1.0 4.1.0 4.11.0 5.11.0"},
		{12, 660, "0.11.0 1.60.0 2.2.0 3.1.0 4.12.0 5.11.0", "4.11.0 4.1.0 2.11.0 3.0.0 0.10.0"},
		{12, 659, "0.10.0 4.11.0 1.60.59 2.15.0 5.49.0", "4.10.0 4.12.0 0.11.0"},
		{12, 195, "0.3.0 1.15.0 1.60.15 1.7.1 2.9.0 4.4.0 5.12.0 3.0.0", "0.4.0 1.60.0 1.7.0 2.18.0 4.3.0 5.18.0 3.1.0"},
		{12, 360, "3.0.0 0.6.0 4.7.0 2.6.0 5.6.0", "3.1.0 4.6.0"},
		{12, 359, "3.1.0 4.6.0 5.54.0", "3.0.0"},
		{12, 361, "3.0.0 4.7.0 5.5.0", "3.1.0"},
		{12, 5, "3.1.0 5.5.0", "3.0.0"},
		{12, 65, "3.0.0 0.1.0 5.4.0", "3.1.0"},
		{12, 66, "3.1.0 0.1.0 5.5.0", "3.0.0"},
		{7, 35, "3.0.0 5.35.0", "3.1.0"},
		{7, 34, "3.1.0", "3.0.0"},
		{7, 36, "3.0.0", "3.1.0"},
		{7, 70, "3.1.0 0.1.0 5.9.0 4.2.0", "3.0.0"},
		{7, 69, "3.0.0", "3.1.0"},
		{7, 419, "0.6.0 4.7.0 3.0.0", "4.1.0 3.1.0"},
		{2, 0, "0.0.0 4.1.0 3.1.0", "4.2.0 3.0.0"},
		{2, 59, "0.0.0 4.1.0 3.1.0 5.59.0 2.14.0", "4.2.0 3.0.0"},
		{2, 60, "0.1.0 4.2.0 3.0.0 5.1.0 2.1.0", "4.1.0 3.1.0"},
		{2, 119, "0.1.0 4.2.0 3.0.0 5.58.0 2.15.0", "4.1.0 3.1.0"},
		{24, 1439, "0.23.0 4.24.0 2.19.0 5.36.0 1.60.59 3.0.0", "4.1.0 4.23.0 2.28.0 2.10.0 3.1.0"},
		{24, 1199, "2.24.0 0.19.0 4.20.0 5.40.0", "2.6.0 2.25.0 4.19.0"},
		{24, 1380, "5.23.0 2.5.0 4.24.0", "5.0.0 4.23.0"},
		{24, 1403, "5.0.0 2.10.0 0.23.0", "5.1.0 5.46.0"},
		{24, 720, "3.0.0 0.12.0 5.12.0", "3.1.0"},
	} {
		for texts, want := range map[string]bool{c.fit: true, c.not: false} {
			for _, text := range strings.Fields(texts) {
				clue := parsed("12:" + text).Clues[0]
				fit, ok := impl.DoesFit(c.h, clue, c.minute)
				wantResult(t, fmt.Sprintf("DoesFit %d, %s and %d", c.h, text, c.minute), fit, ok, want, true)
			}
		}
	}
}

func TestNothingFits(t *testing.T) {
	everyDial(func(h int) {
		for _, c := range noCluesOf(h) {
			for _, minute := range append(noMinutes(h), 0, 1, 60*h-1) {
				fit, ok := impl.DoesFit(h, c, minute)
				wantFailure(t, fmt.Sprint("DoesFit ", h, c, minute), fit, ok)
			}
		}
		for minute := range 60*h + 2 {
			fit, ok := impl.DoesFit(h, clue(0, h-1, 0), minute)
			wantResult(t, fmt.Sprint("DoesFit the last hour of ", h, " ", minute), fit, ok, minute >= 60*h-60 && minute < 60*h, minute < 60*h)
		}
	})
	for _, h := range noDials {
		for _, c := range cluesOf(12) {
			fit, ok := impl.DoesFit(h, c, 0)
			wantFailure(t, fmt.Sprint("DoesFit ", h, c), fit, ok)
		}
	}
}

// TestSolutions asks for all that is told of solutions, and goes by DoesFit too: promise 9 says that they fit all clues.
func TestSolutions(t *testing.T) {
	for _, p := range somePuzzles() {
		what := " of " + textOf(p)
		want := solutionsOf(p)
		minutes, ok := impl.Solutions(p)
		wantList(t, "Solutions"+what, minutes, ok, want, true)
		n, ok := impl.CountSolutions(p)
		wantResult(t, "CountSolutions"+what, n, ok, len(want), true)
		first, ok := impl.FirstSolution(p)
		if len(want) == 0 {
			wantFailure(t, "FirstSolution"+what, first, ok)
		} else {
			wantResult(t, "FirstSolution"+what, first, ok, want[0], true)
		}
		solved, ok := impl.IsSolved(p)
		wantResult(t, "IsSolved"+what, solved, ok, len(want) == 1, true)
		var times []impl.Turn
		for _, minute := range want {
			time, _ := impl.TimeOf(p.Hours, minute/60, minute%60, 0)
			times = append(times, time)
		}
		turns, ok := impl.SolutionTimes(p)
		wantList(t, "SolutionTimes"+what, turns, ok, times, true)
		for minute := range 60 * p.Hours {
			fitAll := true
			for _, c := range p.Clues {
				fit, _ := impl.DoesFit(p.Hours, c, minute)
				fitAll = fitAll && fit
			}
			if fitAll != slices.Contains(minutes, minute) {
				t.Errorf("minute %d%s: fits all clues %v", minute, what, fitAll)
			}
		}
	}
}

func TestSolutionsInTable(t *testing.T) {
	for text, want := range map[string][]int{
		"12:0.3.0,1.15.0":       {180, 195, 210, 225},
		"12:0.3.0,1.15.0,2.9.0": {195},
		"12:0.3.0,0.4.0":        nil,
		"12:0.3.0,4.3.0":        nil,
		"12:4.12.0,1.30.0":      {660, 690},
		"12:4.1.0,1.60.0":       {0},
		"2:1.60.59":             {59, 119},
		"2:1.60.59,0.1.0":       {119},
		"2:2.15.0":              {119},
		"2:2.16.0":              nil,
		"24:2.24.0":             {1199},
		"24:2.25.0":             nil,
		"24:2.30.0":             nil,
		"24:2.23.0":             {599, 1139, 1189, 1198},
		"24:2.0.0":              {0},
		"12:5.59.0":             {59},
		"24:5.0.0,0.23.0":       {1403},
		"24:5.1.0,0.23.0":       {1402, 1404},
		"12:5.1.0,0.0.0":        {1},
		"12:3.0.0,3.1.0":        nil,
		"12:3.0.0,0.6.0,1.20.0": {360, 380},
		"12:3.1.0,0.6.0,1.20.0": {400},
		"7:3.1.0,0.1.0,1.10.0":  {70, 80, 90, 100},
		"12:0.3.0,0.3.0,0.3.0,0.3.0,0.3.0,1.60.7": {187},
	} {
		minutes, ok := impl.Solutions(parsed(text))
		wantList(t, "Solutions of "+text, minutes, ok, want, true)
	}
	for text, want := range map[string][]impl.Turn{
		"12:0.3.0,1.15.0": {turn(1, 4), turn(13, 48), turn(7, 24), turn(5, 16)},
		"12:4.1.0,1.60.0": {turn(0, 1)},
		"24:2.24.0":       {turn(1199, 1440)},
		"2:2.15.0":        {turn(119, 120)},
		"2:2.16.0":        nil,
	} {
		times, ok := impl.SolutionTimes(parsed(text))
		wantList(t, "SolutionTimes of "+text, times, ok, want, true)
	}
}

// TestAllMinutes solves puzzles of no clues.
func TestAllMinutes(t *testing.T) {
	everyDial(func(h int) {
		for _, p := range []impl.Puzzle{{Hours: h}, {Hours: h, Clues: []impl.Clue{}}} {
			minutes, ok := impl.Solutions(p)
			if !ok || len(minutes) != 60*h {
				t.Error("Solutions of no clues", h, len(minutes), ok)
			}
			for i, minute := range minutes {
				wantResult(t, "Solutions of no clues", minute, ok, i, true)
			}
			first, ok := impl.FirstSolution(p)
			wantResult(t, "FirstSolution of no clues", first, ok, 0, true)
			left, ok := impl.LeftByClues(p)
			wantList(t, "LeftByClues of no clues", left, ok, []int{60 * h}, true)
			needless, ok := impl.NeedlessClues(p)
			wantList(t, "NeedlessClues of no clues", needless, ok, nil, true)
			best, ok := impl.BestClue(p)
			wantFailure(t, "BestClue of no clues", best, ok)
			dropped, ok := impl.DropClue(p, 0)
			wantNoPuzzle(t, "DropClue of no clues", dropped, ok)
			harder, ok := impl.HarderPuzzle(p)
			wantNoPuzzle(t, "HarderPuzzle of no clues", harder, ok)
			solved, ok := impl.IsSolved(p)
			wantResult(t, "IsSolved of no clues", solved, ok, false, true)
		}
	})
}

// withoutClue returns a puzzle without a clue, in memory of its own.
func withoutClue(p impl.Puzzle, k int) impl.Puzzle {
	return puzzle(p.Hours, slices.Delete(slices.Clone(p.Clues), k, k+1)...)
}

func TestClues(t *testing.T) {
	for _, p := range somePuzzles() {
		what := " of " + textOf(p)
		solutions := solutionsOf(p)
		var needless, alone []int
		left := []int{60 * p.Hours}
		for k, c := range p.Clues {
			if slices.Equal(solutionsOf(withoutClue(p, k)), solutions) {
				needless = append(needless, k)
			}
			alone = append(alone, len(solutionsOf(puzzle(p.Hours, c))))
			left = append(left, len(solutionsOf(puzzle(p.Hours, p.Clues[:k+1]...))))
		}
		got, ok := impl.NeedlessClues(p)
		wantList(t, "NeedlessClues"+what, got, ok, needless, true)
		got, ok = impl.LeftByClues(p)
		wantList(t, "LeftByClues"+what, got, ok, left, true)
		best, ok := impl.BestClue(p)
		if len(alone) == 0 {
			wantFailure(t, "BestClue"+what, best, ok)
		} else {
			wantResult(t, "BestClue"+what, best, ok, slices.Index(alone, slices.Min(alone)), true)
		}
	}
}

func TestCluesInTable(t *testing.T) {
	for _, c := range []struct {
		text           string
		needless, left []int
		best           int
	}{
		{"12:0.3.0", nil, []int{720, 60}, 0},
		{"12:0.3.0,0.3.0", []int{0, 1}, []int{720, 60, 60}, 0},
		{"12:0.3.0,4.4.0,1.60.15", []int{0, 1}, []int{720, 60, 60, 1}, 2},
		{"12:0.3.0,0.4.0", nil, []int{720, 60, 0}, 0},
		{"12:0.3.0,0.4.0,0.3.0", []int{0, 2}, []int{720, 60, 0, 0}, 0},
		{"12:0.3.0,0.4.0,0.5.0", []int{0, 1, 2}, []int{720, 60, 0, 0}, 0},
		{"12:0.3.0,1.15.0,2.9.0", []int{}, []int{720, 60, 4, 1}, 1},
		{"12:3.0.0,0.3.0,1.60.15,1.60.15", []int{0, 2, 3}, []int{720, 360, 27, 1, 1}, 2},
		{"12:2.30.0,0.3.0", []int{1}, []int{720, 0, 0}, 0},
		{"12:0.3.0,2.30.0,2.29.0", []int{0, 1, 2}, []int{720, 60, 0, 0}, 1},
		{"2:0.1.0,4.2.0,3.0.0,1.60.59,2.15.0,5.58.0", []int{0, 1, 2, 3, 4, 5}, []int{120, 60, 60, 60, 1, 1, 1}, 4},
	} {
		p := parsed(c.text)
		got, ok := impl.NeedlessClues(p)
		wantList(t, "NeedlessClues of "+c.text, got, ok, c.needless, true)
		got, ok = impl.LeftByClues(p)
		wantList(t, "LeftByClues of "+c.text, got, ok, c.left, true)
		best, ok := impl.BestClue(p)
		wantResult(t, "BestClue of "+c.text, best, ok, c.best, true)
	}
}

func TestDropClue(t *testing.T) {
	for _, p := range somePuzzles() {
		what := " of " + textOf(p)
		for k := range p.Clues {
			dropped, ok := impl.DropClue(p, k)
			wantPuzzle(t, fmt.Sprint("DropClue ", k, what), dropped, ok, withoutClue(p, k), true)
		}
		for _, k := range []int{math.MinInt, -len(p.Clues), -1, len(p.Clues), len(p.Clues) + 1, 6, 7, math.MaxInt} {
			if k < 0 || k >= len(p.Clues) {
				dropped, ok := impl.DropClue(p, k)
				wantNoPuzzle(t, fmt.Sprint("DropClue ", k, what), dropped, ok)
			}
		}
	}
}

func TestAddClue(t *testing.T) {
	for _, p := range somePuzzles() {
		what := " of " + textOf(p)
		for _, c := range []impl.Clue{clue(0, 0, 0), clue(0, p.Hours-1, 0), clue(1, 60, 59), clue(2, 30, 0), clue(3, 0, 0), clue(4, p.Hours, 0), clue(5, 59, 0)} {
			want := puzzle(p.Hours, slices.Concat(p.Clues, []impl.Clue{c})...)
			wantOk := len(p.Clues) < impl.MaxClues
			if !wantOk {
				want = impl.Puzzle{}
			}
			added, ok := impl.AddClue(p, c)
			wantPuzzle(t, fmt.Sprint("AddClue ", c, what), added, ok, want, wantOk)
		}
		for _, c := range noCluesOf(p.Hours) {
			added, ok := impl.AddClue(p, c)
			wantNoPuzzle(t, fmt.Sprint("AddClue ", c, what), added, ok)
		}
	}
}

// TestRoomOfClues gives puzzles whose clues have room behind them, with clues in it, and writes into what is handed back.
func TestRoomOfClues(t *testing.T) {
	all := parsed("12:0.3.0,1.15.0,2.9.0,0.4.0,3.1.0,5.1.0,0.7.0").Clues
	for from := range all {
		for to := from; to <= len(all); to++ {
			room := slices.Clone(all)
			p := impl.Puzzle{Hours: 12, Clues: room[from:to]}
			var handed []impl.Puzzle
			for k := -1; k <= to-from; k++ {
				dropped, _ := impl.DropClue(p, k)
				handed = append(handed, dropped)
			}
			added, _ := impl.AddClue(p, clue(4, 4, 0))
			harder, _ := impl.HarderPuzzle(p)
			for _, q := range append(handed, added, harder) {
				clues := q.Clues[:cap(q.Clues)]
				for i := range clues {
					clues[i] = clue(-1, -1, -1)
				}
			}
			impl.Solutions(p)
			impl.NeedlessClues(p)
			impl.LeftByClues(p)
			impl.BestClue(p)
			wantList(t, fmt.Sprintf("the room of the clues %d to %d", from, to), room, true, all, true)
			wantList(t, fmt.Sprintf("the clues %d to %d", from, to), p.Clues, true, all[from:to], true)
		}
	}
}

// harderOf is an independent HarderPuzzle of a puzzle that is solved.
func harderOf(p impl.Puzzle) impl.Puzzle {
	kept := make([]bool, len(p.Clues))
	for i := range kept {
		kept[i] = true
	}
	choose := func() impl.Puzzle {
		q := impl.Puzzle{Hours: p.Hours}
		for i, c := range p.Clues {
			if kept[i] {
				q.Clues = append(q.Clues, c)
			}
		}
		return q
	}
	for i := range kept {
		kept[i] = false
		kept[i] = len(solutionsOf(choose())) != 1
	}
	return choose()
}

// TestHarderPuzzle also goes by promise 9: harder puzzles are solved by the same, and no clue of them is needless.
func TestHarderPuzzle(t *testing.T) {
	solved := 0
	for _, p := range somePuzzles() {
		what := "HarderPuzzle of " + textOf(p)
		solutions := solutionsOf(p)
		harder, ok := impl.HarderPuzzle(p)
		if len(solutions) != 1 {
			wantNoPuzzle(t, what, harder, ok)
			continue
		}
		solved++
		wantPuzzle(t, what, harder, ok, harderOf(p), true)
		minutes, ok := impl.Solutions(harder)
		wantList(t, what+" is solved by the same", minutes, ok, solutions, true)
		for k := range harder.Clues {
			rest, _ := impl.DropClue(harder, k)
			is, ok := impl.IsSolved(rest)
			wantResult(t, fmt.Sprint(what, " without the clue ", k), is, ok, false, true)
		}
	}
	if solved < 50 {
		t.Error("just", solved, "puzzles are solved")
	}
}

func TestHarderPuzzleInTable(t *testing.T) {
	for text, want := range map[string]string{
		"12:0.3.0,1.15.0,2.9.0":                     "12:0.3.0,1.15.0,2.9.0",
		"12:0.3.0,0.3.0,1.60.15":                    "12:0.3.0,1.60.15",
		"12:0.3.0,4.4.0,1.60.15":                    "12:4.4.0,1.60.15",
		"12:1.60.15,1.60.15,4.4.0,0.3.0":            "12:1.60.15,0.3.0",
		"2:0.1.0,4.2.0,3.0.0,1.60.59,2.15.0,5.58.0": "2:2.15.0",
		"2:5.58.0,0.1.0,4.2.0,3.0.0,1.60.59,2.15.0": "2:2.15.0",
		"24:2.24.0":        "24:2.24.0",
		"24:2.24.0,2.24.0": "24:2.24.0",
		"24:2.24.0,0.19.0": "24:2.24.0",
		"24:0.19.0,2.24.0": "24:2.24.0",
		"24:0.19.0,1.60.59,2.24.0,5.40.0,4.20.0,1.2.1": "24:5.40.0,4.20.0",
	} {
		harder, ok := impl.HarderPuzzle(parsed(text))
		wantPuzzle(t, "HarderPuzzle of "+text, harder, ok, parsed(want), true)
	}
	for _, text := range []string{"12:", "12:0.3.0", "12:0.3.0,1.15.0", "12:0.3.0,0.4.0", "24:2.25.0", "2:1.60.59", "12:3.0.0,3.1.0,0.1.0,1.60.1"} {
		harder, ok := impl.HarderPuzzle(parsed(text))
		wantNoPuzzle(t, "HarderPuzzle of "+text, harder, ok)
	}
}

// madeOf is an independent MakePuzzle: each clue is searched for among all of its kind, of which one fits.
func madeOf(h int, minute int, clues int, seed int) impl.Puzzle {
	p, z, told := impl.Puzzle{Hours: h}, seed, goAround(h)[minute]
	next := func() int {
		z = z*163 + 2917
		z -= z / 10009 * 10009
		return z
	}
	for range clues {
		c := clue(next()%6, 0, 0)
		if c.Kind == 1 {
			c.A = next()%59 + 2
		}
		for !fits(told, c) {
			if c.Kind == 1 {
				c.B++
			} else {
				c.A++
			}
		}
		p.Clues = append(p.Clues, c)
	}
	return p
}

func TestMakePuzzle(t *testing.T) {
	check := func(h int, minute int, clues int, seed int) {
		what := fmt.Sprint("MakePuzzle ", h, minute, clues, seed)
		made, ok := impl.MakePuzzle(h, minute, clues, seed)
		wantPuzzle(t, what, made, ok, madeOf(h, minute, clues, seed), true)
		if !impl.IsPuzzle(made) {
			t.Error(what, "makes no puzzle")
		}
		for _, c := range made.Clues {
			fit, ok := impl.DoesFit(h, c, minute)
			wantResult(t, fmt.Sprint(what, c), fit, ok, true, true)
		}
	}
	for seed := range 10000 {
		check(2+seed%23, (seed*37)%(60*(2+seed%23)), 6, seed)
	}
	for _, h := range []int{2, 7, 12, 24} {
		for minute := range 60 * h {
			check(h, minute, 6, (minute*7919)%10000)
		}
	}
	everyDial(func(h int) {
		for clues := range impl.MaxClues + 1 {
			for _, minute := range []int{0, 1, 59, 60, 60*h - 60, 60*h - 1} {
				for _, seed := range []int{0, 1, 4711, 9999} {
					check(h, minute, clues, seed)
				}
			}
		}
	})
}

func TestMakePuzzleInTable(t *testing.T) {
	for _, c := range []struct {
		h, minute, clues, seed int
		want                   string
	}{
		{12, 195, 0, 0, "12:"},
		{24, 1439, 0, 9999, "24:"},
		// The numbers behind 0 are 2917, 7965, 42, 9763 and 2855.
		{12, 195, 1, 0, "12:1.2.1"},
		{12, 195, 2, 0, "12:1.2.1,0.3.0"},
		{12, 195, 3, 0, "12:1.2.1,0.3.0,1.25.15"},
		{2, 0, 3, 0, "2:1.2.0,0.0.0,1.25.0"},
		{24, 1439, 3, 0, "24:1.2.1,0.23.0,1.25.9"},
		// Those behind 9999 are 1287, 2509, 1515, 9646 and 3802.
		{12, 195, 4, 9999, "12:3.0.0,1.42.15,4.4.0,4.4.0"},
		{12, 719, 4, 9999, "12:3.0.0,1.42.17,4.12.0,4.12.0"},
		{12, 361, 2, 9999, "12:3.0.0,1.42.1"},
		{12, 359, 2, 9999, "12:3.1.0,1.42.17"},
		// Those behind 1 are 3080, 4507 and 6901.
		{12, 195, 1, 1, "12:2.9.0"},
		{24, 1199, 1, 1, "24:2.24.0"},
		{12, 195, 2, 1, "12:2.9.0,1.59.15"},
	} {
		made, ok := impl.MakePuzzle(c.h, c.minute, c.clues, c.seed)
		wantPuzzle(t, fmt.Sprint("MakePuzzle ", c.h, c.minute, c.clues, c.seed), made, ok, parsed(c.want), true)
	}
}

func TestMakeNoPuzzle(t *testing.T) {
	fail := func(h int, minute int, clues int, seed int) {
		t.Helper()
		made, ok := impl.MakePuzzle(h, minute, clues, seed)
		wantNoPuzzle(t, fmt.Sprint("MakePuzzle ", h, minute, clues, seed), made, ok)
	}
	for clues := range impl.MaxClues + 1 {
		for _, h := range noDials {
			for _, minute := range []int{0, 59, 195} {
				fail(h, minute, clues, 0)
			}
		}
		everyDial(func(h int) {
			for _, minute := range noMinutes(h) {
				fail(h, minute, clues, 0)
			}
			for _, seed := range []int{math.MinInt, -1, 10000, 10008, 10009, math.MaxInt} {
				fail(h, 0, clues, seed)
			}
		})
	}
	everyDial(func(h int) {
		for _, clues := range []int{math.MinInt, -6, -1, 7, 8, 1000000, math.MaxInt} {
			for _, seed := range []int{0, 1, 9999} {
				fail(h, 60*h-1, clues, seed)
			}
		}
	})
}

func TestPuzzleText(t *testing.T) {
	puzzles := somePuzzles()
	everyDial(func(h int) {
		for _, c := range cluesOf(h) {
			puzzles = append(puzzles, puzzle(h, c))
		}
	})
	for _, p := range puzzles {
		want := textOf(p)
		text, ok := impl.PuzzleText(p)
		wantResult(t, "PuzzleText", text, ok, want, true)
		again, ok := impl.ParsePuzzle(want)
		wantPuzzle(t, "ParsePuzzle "+want, again, ok, p, true)
	}
	for _, text := range []string{"12:", "2:", "24:0.23.0", "12:0.3.0,1.15.0,2.9.0", "12:1.60.59,1.60.59,1.60.59,1.60.59,1.60.59,1.60.59", "2:4.2.0,5.59.0,3.0.0"} {
		p, ok := impl.ParsePuzzle(text)
		wantPuzzle(t, "ParsePuzzle "+text, p, ok, parsed(text), true)
		got, ok := impl.PuzzleText(p)
		wantResult(t, "PuzzleText", got, ok, text, true)
	}
}

func TestParseNoPuzzle(t *testing.T) {
	texts := []string{
		"", ":", "::", "12", "12,", "12.", "12.0.3.0", "12,0.3.0", "12::", "12::0.3.0", "12:0.3.0:", "12:0.3.0:1.15.0", ":12:", ":0.3.0", "1:", "0:", "25:", "-12:", "+12:", "012:", "12 :", " 12:", "12: ",
		"12:0.3.0 ", "12: 0.3.0", "12:0.3.0\n", "\n12:", "12:\n", "0x12:", "1_2:", "1e1:", "12.0:", "twelve:", "\xff12:", "12\xff:", "12:\x00",
		"12:,", "12:,0.3.0", "12:0.3.0,", "12:0.3.0,,1.15.0", "12:0.3.0,1.15.0,", "12:0.3.0;1.15.0", "12:0.3.0 1.15.0", "12:0.3.0, 1.15.0", "12:,,,,,", "12:,,,,,,",
		"12:0", "12:0.3", "12:0.3.", "12:.0.3.0", "12:0.3.0.", "12:0.3.0.0", "12:0..3.0", "12:0..0", "12:..", "12:.3.0", "12:0.3..0", "12:.", "12:0,3,0", "12:0.3,0",
		"12:00.3.0", "12:0.03.0", "12:0.3.00", "12:01.15.0", "12:1.015.0", "12:1.15.00", "12:1.15.07", "12:+0.3.0", "12:0.+3.0", "12:0.3.+0", "12:-0.3.0", "12:0.-0.0", "12:0.3.-0", "12:1.15.-1", "12:0.-1.0",
		"12:0.3.0x", "12:x.3.0", "12:0.x.0", "12:0.3.x", "12:0.0x3.0", "12:0.3.0,1.15", "12:0.3.0,1.15.0.0", "12:0.3.0,1", "12:0.3.0,x",
		"12:6.0.0", "12:-1.0.0", "12:0.12.0", "12:0.3.1", "12:1.1.0", "12:1.61.0", "12:1.15.15", "12:2.31.0", "12:3.2.0", "12:4.0.0", "12:4.13.0", "12:5.60.0", "2:0.2.0", "25:0.3.0", "1:0.0.0",
		"12:" + strings.Repeat("0.3.0,", 6) + "0.3.0", "12:" + strings.Repeat("0.3.0,", 6), "12:" + strings.Repeat("0.3.0,", 100000) + "0.3.0", "12:" + strings.Repeat(",", 100000),
		"12:9223372036854775807.3.0", "12:0.9223372036854775808.0", "12:0.3.9223372036854775808", "18446744073709551628:0.3.0", "12:0.18446744073709551619.0", "12:" + strings.Repeat("9", 100000) + ".3.0",
		strings.Repeat("0", 100000) + "12:", strings.Repeat("12:", 1000), "12\uff1a0.3.0", "\uff11\uff12:", "12:\u0660.3.0", "12:0\u22c53.0",
	}
	for _, text := range texts {
		p, ok := impl.ParsePuzzle(text)
		wantNoPuzzle(t, fmt.Sprintf("ParsePuzzle %.60q", text), p, ok)
	}
	for _, text := range []string{"12:", "12:0.3.0,1.15.0", "24:1.60.59,2.24.0,4.1.0"} {
		for at := range len(text) + 1 {
			for _, more := range []string{"0", "1", "-", "+", ".", ",", ":", " ", "\x00", "\xff", "x"} {
				changed := text[:at] + more + text[at:]
				q := parsed(changed)
				p, ok := impl.ParsePuzzle(changed)
				if wantOk := impl.IsPuzzle(q) && textOf(q) == changed; wantOk {
					wantPuzzle(t, "ParsePuzzle "+changed, p, ok, q, true)
				} else {
					wantNoPuzzle(t, fmt.Sprintf("ParsePuzzle %q", changed), p, ok)
				}
			}
		}
	}
}

// TestNoPuzzles calls each function with puzzles that are none. What else is told is valid.
func TestNoPuzzles(t *testing.T) {
	for _, p := range noPuzzles() {
		what := fmt.Sprintf(" of %.100v", p)
		for name, f := range map[string]func(impl.Puzzle) (int, bool){
			"CountSolutions": impl.CountSolutions, "FirstSolution": impl.FirstSolution, "BestClue": impl.BestClue,
		} {
			n, ok := f(p)
			wantFailure(t, name+what, n, ok)
		}
		for name, f := range map[string]func(impl.Puzzle) ([]int, bool){
			"Solutions": impl.Solutions, "NeedlessClues": impl.NeedlessClues, "LeftByClues": impl.LeftByClues,
		} {
			list, ok := f(p)
			wantList(t, name+what, list, ok, nil, false)
		}
		for name, f := range map[string]func(impl.Puzzle) (impl.Puzzle, bool){
			"HarderPuzzle":  impl.HarderPuzzle,
			"AddClue":       func(p impl.Puzzle) (impl.Puzzle, bool) { return impl.AddClue(p, clue(4, 1, 0)) },
			"DropClue":      func(p impl.Puzzle) (impl.Puzzle, bool) { return impl.DropClue(p, 0) },
			"DropClue last": func(p impl.Puzzle) (impl.Puzzle, bool) { return impl.DropClue(p, len(p.Clues)-1) },
		} {
			got, ok := f(p)
			wantNoPuzzle(t, name+what, got, ok)
		}
		times, ok := impl.SolutionTimes(p)
		wantList(t, "SolutionTimes"+what, times, ok, nil, false)
		solved, ok := impl.IsSolved(p)
		wantFailure(t, "IsSolved"+what, solved, ok)
		text, ok := impl.PuzzleText(p)
		wantFailure(t, "PuzzleText"+what, text, ok)
		got, ok := impl.ParsePuzzle(textOf(p))
		wantNoPuzzle(t, "ParsePuzzle"+what, got, ok)
	}
}
