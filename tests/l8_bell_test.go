package tests

import (
	"fmt"
	"math"
	"slices"
	"strings"
	"testing"

	"loop.example/g01241/impl"
)

// someTunes are tunes of each number of phrases, some of which sound alike at several quarters.
func someTunes() [][]string {
	tunes := [][]string{
		{"1"}, {"8"}, {"12345678"}, {"87654321"}, {"1", "1"}, {"1", "2"}, {"12", "21", "11"}, {"1", "1", "1"}, {"1", "1", "11"}, {"1", "2", "1", "2"},
		{"1", "2", "3", "4", "5"}, {"1", "1", "1", "1", "1"}, {"1", "1", "1", "1", "1", "11"}, {"1", "1", "1", "1", "1", "1", "1", "11"},
		{"1", "1", "1", "1", "1", "11", "1", "1", "1", "11", "11"}, {"1", "1", "1", "1", "1", "1", "1", "1", "1", "1", "1", "2"},
		slices.Repeat([]string{"12345678"}, 12), slices.Repeat([]string{"1"}, 12), {"11111111", "2", "11111111", "2", "3", "8", "11111111", "2", "5", "6", "11", "8"},
	}
	for phrases := 1; phrases <= 12; phrases++ {
		for seed := range 4 {
			tunes = append(tunes, madeTune(phrases, seed))
		}
	}
	return tunes
}

// madeTune returns a tune whose notes follow a simple rule. The greater the seed, the more bells and notes there are.
func madeTune(phrases int, seed int) []string {
	state := uint32(phrases*1000 + seed)
	next := func(most int) int {
		state = state*1664525 + 1013904223
		return int(state>>16) % most
	}
	var tune []string
	for range phrases {
		phrase := ""
		for range 1 + next(1+2*seed) {
			phrase += string(rune('1' + next(2+2*seed)))
		}
		tune = append(tune, phrase)
	}
	return tune
}

// noPhrases are texts that are no phrases, each in its own way. Some have runes that end like the byte of a digit.
var noPhrases = []string{
	"", "0", "9", "a", "10", "01", "19", "91", "1a", "a1", "1a1", "/", "1/2", " 1", "1 ", "1\n", "-1", "+1", "1.", "123456780", "123456781", "111111119",
	"\x00", "\x01", "\x08", "1\xff", "\xff", "1\x80", "\xb1", "\u00b1", "\u0131", "\u0661", "\uff11", "\U00010031", ":", "z1", "\u2160",
	strings.Repeat("1", 9), strings.Repeat("1", 16), strings.Repeat("12345678", 10000),
}

// noTunes are lists that are no tunes, each in its own way.
func noTunes() [][]string {
	tunes := [][]string{
		nil, {}, slices.Repeat([]string{"1"}, 13), slices.Repeat([]string{"12345678"}, 13), slices.Repeat([]string{"1"}, 1000),
		append(slices.Repeat([]string{"1"}, 12), ""), slices.Repeat([]string{""}, 12), slices.Repeat([]string{""}, 13),
	}
	for _, text := range noPhrases {
		tunes = append(tunes, []string{text}, []string{text, "1"}, []string{"1", text}, []string{"12", text, "21"}, append(slices.Repeat([]string{"1"}, 11), text))
	}
	return tunes
}

var noQuarters = []int{math.MinInt, -1000000, -4, -1, impl.MaxQuarters + 1, impl.MaxQuarters + 4, math.MaxInt}

var noBells = []int{math.MinInt, -8, -1, 0, 9, 10, '1', '8', 11, 12, math.MaxInt}

func nameOf(tune []string) string {
	return strings.Join(tune, "/")
}

// played is what is played at a quarter: the numbers of its phrases and the notes, and what has been played before it.
type played struct {
	numbers []int
	notes   string
	before  int
	bells   [9]int
}

// playOut plays a tune, phrase by phrase, and tells of each quarter in turn up to a last one.
func playOut(tune []string, last int, tell func(quarter int, p played)) {
	stands, phrases := 0, 0
	var p played
	for quarter := 0; quarter <= last; quarter++ {
		if phrases++; phrases > 4 {
			phrases = 1
		}
		p.numbers, p.notes = nil, ""
		for range phrases {
			p.numbers = append(p.numbers, stands)
			p.notes += tune[stands]
			if stands++; stands == len(tune) {
				stands = 0
			}
		}
		tell(quarter, p)
		p.before += len(p.notes)
		for _, note := range []byte(p.notes) {
			p.bells[note-'0']++
		}
	}
}

// notesOf returns the notes of so many quarters from the quarter 0 on.
func notesOf(tune []string, quarters int) []string {
	var notes []string
	playOut(tune, quarters-1, func(_ int, p played) { notes = append(notes, p.notes) })
	return notes
}

// aroundOf returns behind how many hours a tune stands as at first. It goes from hour to hour.
func aroundOf(tune []string) int {
	hours, stands := 1, 10%len(tune)
	for stands != 0 {
		hours++
		stands = (stands + 10) % len(tune)
	}
	return hours
}

// left is an independent QuartersOfHeard.
func left(tune []string, heard []string) []int {
	around := 4 * aroundOf(tune)
	notes := notesOf(tune, around+len(heard))
	var quarters []int
	for quarter := range around {
		if slices.Equal(notes[quarter:quarter+len(heard)], heard) {
			quarters = append(quarters, quarter)
		}
	}
	return quarters
}

func TestConstantsOfBells(t *testing.T) {
	if impl.MaxPhrases != 12 || impl.MaxNotes != 8 || impl.MaxBells != 8 || impl.MaxQuarters != 1000000 {
		t.Error("constants", impl.MaxPhrases, impl.MaxNotes, impl.MaxBells, impl.MaxQuarters)
	}
}

func TestExampleOfBells(t *testing.T) {
	tune := []string{"12", "21", "11"}
	n, ok := impl.StandsAt(tune, 1)
	wantResult(t, "StandsAt", n, ok, 1, true)
	numbers, ok := impl.PhrasesOf(tune, 1)
	wantList(t, "PhrasesOf", numbers, ok, []int{1, 2}, true)
	notes, ok := impl.PlayedAt(tune, 1)
	wantResult(t, "PlayedAt", notes, ok, "2111", true)
	n, ok = impl.HoursUntilSame(tune)
	wantResult(t, "HoursUntilSame", n, ok, 3, true)
	n, ok = impl.StandsAt([]string{"1", "2", "3", "4", "5"}, 4)
	wantResult(t, "StandsAt of five phrases", n, ok, 0, true)
	same, ok := impl.IsSameTune([]string{"1"}, []string{"1", "1"})
	wantResult(t, "IsSameTune", same, ok, true, true)
	text, ok := impl.TuneText(tune)
	wantResult(t, "TuneText", text, ok, "12/21/11", true)
}

func TestIsTune(t *testing.T) {
	for _, tune := range someTunes() {
		if !impl.IsTune(tune) {
			t.Errorf("%q is a tune", tune)
		}
	}
	for _, tune := range noTunes() {
		if impl.IsTune(tune) {
			t.Errorf("%q is no tune", tune)
		}
	}
	for phrases := range 20 {
		for notes := range 12 {
			tune := slices.Repeat([]string{strings.Repeat("4", notes)}, phrases)
			if want := phrases >= 1 && phrases <= 12 && notes >= 1 && notes <= 8; impl.IsTune(tune) != want {
				t.Errorf("IsTune of %d phrases of %d notes is not %v", phrases, notes, want)
			}
		}
	}
	for note := range rune(70000) {
		if want := note >= '1' && note <= '8'; impl.IsTune([]string{"1", string(note)}) != want {
			t.Errorf("IsTune of the note %q is not %v", note, want)
		}
	}
	for note := range 256 {
		if want := note >= '1' && note <= '8'; impl.IsTune([]string{string([]byte{'8', byte(note)})}) != want {
			t.Errorf("IsTune of the byte %d is not %v", note, want)
		}
	}
}

// TestNoTunes calls each function with lists that are no tunes. What else is told is valid.
func TestNoTunes(t *testing.T) {
	good := []string{"12", "21", "11"}
	for _, tune := range noTunes() {
		what := fmt.Sprintf(" of %.40q", tune)
		for name, f := range map[string]func([]string, int) (int, bool){
			"StandsAt": impl.StandsAt, "NotesUpTo": impl.NotesUpTo,
			"BellUpTo":        func(tune []string, quarter int) (int, bool) { return impl.BellUpTo(tune, 1, quarter) },
			"NextQuarterWith": func(tune []string, quarter int) (int, bool) { return impl.NextQuarterWith(tune, 1, quarter) },
			"HoursUntilSame":  func(tune []string, _ int) (int, bool) { return impl.HoursUntilSame(tune) },
			"FewestHeard":     func(tune []string, _ int) (int, bool) { return impl.FewestHeard(tune) },
		} {
			for _, quarter := range []int{0, 1, impl.MaxQuarters} {
				n, ok := f(tune, quarter)
				wantFailure(t, name+what, n, ok)
			}
		}
		for name, f := range map[string]func([]string) ([]string, bool){
			"MirrorTune": impl.MirrorTune, "FullHours": impl.FullHours,
			"TurnTune": func(tune []string) ([]string, bool) { return impl.TurnTune(tune, 0) },
		} {
			list, ok := f(tune)
			wantList(t, name+what, list, ok, nil, false)
		}
		numbers, ok := impl.PhrasesOf(tune, 1)
		wantList(t, "PhrasesOf"+what, numbers, ok, nil, false)
		bells, ok := impl.BellsOf(tune)
		wantList(t, "BellsOf"+what, bells, ok, nil, false)
		quarters, ok := impl.QuartersOfHeard(tune, []string{"1"})
		wantList(t, "QuartersOfHeard"+what, quarters, ok, nil, false)
		notes, ok := impl.PlayedAt(tune, 1)
		wantFailure(t, "PlayedAt"+what, notes, ok)
		text, ok := impl.TuneText(tune)
		wantFailure(t, "TuneText"+what, text, ok)
		for _, pair := range [][2][]string{{tune, good}, {good, tune}, {tune, tune}} {
			same, ok := impl.IsSameTune(pair[0], pair[1])
			wantFailure(t, "IsSameTune"+what, same, ok)
		}
	}
}

func TestNoQuarters(t *testing.T) {
	for _, tune := range someTunes() {
		for _, quarter := range noQuarters {
			what := fmt.Sprintf(" %d of %s", quarter, nameOf(tune))
			numbers, ok := impl.PhrasesOf(tune, quarter)
			wantList(t, "PhrasesOf"+what, numbers, ok, nil, false)
			notes, ok := impl.PlayedAt(tune, quarter)
			wantFailure(t, "PlayedAt"+what, notes, ok)
			n, ok := impl.StandsAt(tune, quarter)
			wantFailure(t, "StandsAt"+what, n, ok)
			n, ok = impl.NotesUpTo(tune, quarter)
			wantFailure(t, "NotesUpTo"+what, n, ok)
			for bell := 1; bell <= impl.MaxBells; bell++ {
				n, ok = impl.BellUpTo(tune, bell, quarter)
				wantFailure(t, fmt.Sprintf("BellUpTo %d,%s", bell, what), n, ok)
				n, ok = impl.NextQuarterWith(tune, bell, quarter)
				wantFailure(t, fmt.Sprintf("NextQuarterWith %d,%s", bell, what), n, ok)
			}
		}
	}
}

func TestNoBells(t *testing.T) {
	for _, tune := range someTunes() {
		for _, bell := range noBells {
			for _, quarter := range []int{0, 7, impl.MaxQuarters, -1} {
				what := fmt.Sprintf(" %d, %d of %s", bell, quarter, nameOf(tune))
				n, ok := impl.BellUpTo(tune, bell, quarter)
				wantFailure(t, "BellUpTo"+what, n, ok)
				n, ok = impl.NextQuarterWith(tune, bell, quarter)
				wantFailure(t, "NextQuarterWith"+what, n, ok)
			}
		}
	}
}

// TestQuarters plays tunes out, a part of them up to MaxQuarters, and asks at the first quarters, at the last ones and at some
// in between.
func TestQuarters(t *testing.T) {
	for i, tune := range someTunes() {
		last := impl.MaxQuarters
		if i%4 > 0 {
			last = 150
		}
		playOut(tune, last, func(quarter int, p played) {
			if quarter > 150 && quarter < impl.MaxQuarters-100 && quarter%9973 != 0 {
				return
			}
			what := fmt.Sprintf(" %d of %s", quarter, nameOf(tune))
			numbers, ok := impl.PhrasesOf(tune, quarter)
			wantList(t, "PhrasesOf"+what, numbers, ok, p.numbers, true)
			notes, ok := impl.PlayedAt(tune, quarter)
			wantResult(t, "PlayedAt"+what, notes, ok, p.notes, true)
			n, ok := impl.StandsAt(tune, quarter)
			wantResult(t, "StandsAt"+what, n, ok, p.numbers[0], true)
			n, ok = impl.NotesUpTo(tune, quarter)
			wantResult(t, "NotesUpTo"+what, n, ok, p.before, true)
			for bell := 1; bell <= impl.MaxBells; bell++ {
				n, ok = impl.BellUpTo(tune, bell, quarter)
				wantResult(t, fmt.Sprintf("BellUpTo %d,%s", bell, what), n, ok, p.bells[bell], true)
			}
		})
	}
}

func TestQuartersInTable(t *testing.T) {
	for _, c := range []struct {
		tune    string
		quarter int
		numbers []int
		notes   string
		before  int
		ones    int
	}{
		{"1", 0, []int{0}, "1", 0, 0},
		{"1", 3, []int{0, 0, 0, 0}, "1111", 6, 6},
		{"1", 4, []int{0}, "1", 10, 10},
		{"1", impl.MaxQuarters, []int{0}, "1", 2500000, 2500000},
		{"8", impl.MaxQuarters - 1, []int{0, 0, 0, 0}, "8888", 2499996, 0},
		{"12/21/11", 0, []int{0}, "12", 0, 0},
		{"12/21/11", 1, []int{1, 2}, "2111", 2, 1},
		{"12/21/11", 2, []int{0, 1, 2}, "122111", 6, 4},
		{"12/21/11", 3, []int{0, 1, 2, 0}, "12211112", 12, 8},
		{"12/21/11", 4, []int{1}, "21", 20, 13},
		{"12/21/11", 8, []int{2}, "11", 40, 26},
		{"12/21/11", 12, []int{0}, "12", 60, 40},
		{"12/21/11", impl.MaxQuarters, []int{1}, "21", 5000000, 3333333},
		{"1/2/3/4/5/6/7/8/1/2/3/4", 3, []int{6, 7, 8, 9}, "7812", 6, 1},
		{"1/2/3/4/5/6/7/8/1/2/3/4", 5, []int{11, 0}, "41", 11, 2},
		{"12345678/1", 2, []int{1, 0, 1}, "1123456781", 17, 3},
	} {
		tune := strings.Split(c.tune, "/")
		what := fmt.Sprintf(" %d of %s", c.quarter, c.tune)
		numbers, ok := impl.PhrasesOf(tune, c.quarter)
		wantList(t, "PhrasesOf"+what, numbers, ok, c.numbers, true)
		notes, ok := impl.PlayedAt(tune, c.quarter)
		wantResult(t, "PlayedAt"+what, notes, ok, c.notes, true)
		n, ok := impl.StandsAt(tune, c.quarter)
		wantResult(t, "StandsAt"+what, n, ok, c.numbers[0], true)
		n, ok = impl.NotesUpTo(tune, c.quarter)
		wantResult(t, "NotesUpTo"+what, n, ok, c.before, true)
		n, ok = impl.BellUpTo(tune, 1, c.quarter)
		wantResult(t, "BellUpTo 1,"+what, n, ok, c.ones, true)
	}
}

// TestTenPhrasesInAnHour is the first part of promise 8: whenever an hour begins, ten phrases come in it, in turn.
func TestTenPhrasesInAnHour(t *testing.T) {
	for _, tune := range someTunes() {
		for _, first := range []int{0, 4, 8, 40, 44, 996, 499996, 999992, 999996} {
			var phrases []int
			for quarter := first; quarter < first+4; quarter++ {
				numbers, _ := impl.PhrasesOf(tune, quarter)
				phrases = append(phrases, numbers...)
			}
			if len(phrases) != 10 {
				t.Errorf("%d phrases of %s in the hour from %d", len(phrases), nameOf(tune), first)
			}
			stands, _ := impl.StandsAt(tune, first)
			for i, number := range phrases {
				wantResult(t, fmt.Sprintf("phrase %d of %s in the hour from %d", i, nameOf(tune), first), number, true, (stands+i)%len(tune), true)
			}
		}
	}
}

func TestHoursUntilSame(t *testing.T) {
	for i, want := range []int{1, 1, 3, 2, 1, 3, 7, 4, 9, 1, 11, 6} {
		for _, tune := range [][]string{slices.Repeat([]string{"1"}, i+1), slices.Repeat([]string{"12345678"}, i+1), madeTune(i+1, 3)} {
			n, ok := impl.HoursUntilSame(tune)
			wantResult(t, "HoursUntilSame of "+nameOf(tune), n, ok, want, true)
			for hour := 1; hour <= want; hour++ {
				stands, ok := impl.StandsAt(tune, 4*hour)
				if !ok || (stands == 0) != (hour == want) {
					t.Errorf("behind the hour %d %s stands at %d", hour, nameOf(tune), stands)
				}
			}
		}
	}
}

func TestQuartersOfHeard(t *testing.T) {
	for _, tune := range someTunes() {
		around := 4 * aroundOf(tune)
		notes := notesOf(tune, around+8)
		for quarter := range around {
			for count := 1; count <= 8; count++ {
				heard := notes[quarter : quarter+count]
				what := fmt.Sprintf("QuartersOfHeard %s of %s", strings.Join(heard, " "), nameOf(tune))
				want := left(tune, heard)
				quarters, ok := impl.QuartersOfHeard(tune, heard)
				wantList(t, what, quarters, ok, want, true)
				if !slices.Contains(quarters, quarter) {
					t.Errorf("%s leaves %v without %d", what, quarters, quarter)
				}
				for _, other := range []string{"", notes[(quarter+3)%around], heard[count-1] + "1"} {
					changed := slices.Clone(heard)
					changed[(quarter+count)%count] = other
					quarters, ok := impl.QuartersOfHeard(tune, changed)
					wantList(t, fmt.Sprintf("QuartersOfHeard %q of %s", changed, nameOf(tune)), quarters, ok, left(tune, changed), true)
				}
			}
		}
	}
}

func TestQuartersOfHeardInTable(t *testing.T) {
	for _, c := range []struct {
		tune  string
		heard []string
		want  []int
	}{
		{"12/21/11", []string{"2111"}, []int{1}},
		{"12/21/11", []string{"11122111", "12"}, []int{11}},
		{"12/21/11", []string{"11122111", "12", "2111", "122111", "12211112", "21", "1112", "211112"}, []int{11}},
		{"12/21/11", []string{"11122111", "12", "2111", "122111", "12211112", "21", "1112", "21111"}, nil},
		{"12/21/11", []string{"2"}, nil},
		{"12/21/11", []string{"2111", "12"}, nil},
		{"1", []string{"1"}, []int{0}},
		{"1", []string{"1111"}, []int{3}},
		{"1", []string{"1111", "1", "11", "111", "1111", "1", "11", "111"}, []int{3}},
		{"1", []string{"11111"}, nil},
		{"1/1/1", []string{"1"}, []int{0, 4, 8}},
		{"1/1/1", []string{"1111", "1"}, []int{3, 7, 11}},
		{"1/1/1", []string{"1", "11", "111", "1111", "1", "11", "111", "1111"}, []int{0, 4, 8}},
		{"1/1/1", []string{"1", "11", "111", "1111", "1", "11", "111", "1"}, nil},
		{"1/11/1", []string{"111"}, []int{1, 9}},
		{"1/11/1", []string{"11"}, []int{4, 5}},
		{"1/11/1", []string{"1111"}, []int{2, 6, 10}},
		{"1/1/1/1/1", []string{"1"}, []int{0}},
	} {
		quarters, ok := impl.QuartersOfHeard(strings.Split(c.tune, "/"), c.heard)
		wantList(t, fmt.Sprintf("QuartersOfHeard %v of %s", c.heard, c.tune), quarters, ok, c.want, true)
	}
}

func TestQuartersOfTextsThatAreNeverPlayed(t *testing.T) {
	for _, tune := range someTunes() {
		for _, text := range append(noPhrases, strings.Repeat("1", 100000)) {
			for _, heard := range [][]string{{text}, {tune[0], text}, {text, tune[0]}, slices.Repeat([]string{text}, 8)} {
				quarters, ok := impl.QuartersOfHeard(tune, heard)
				wantList(t, fmt.Sprintf("QuartersOfHeard %.80q of %s", heard, nameOf(tune)), quarters, ok, left(tune, heard), true)
			}
		}
		for _, heard := range [][]string{nil, {}, notesOf(tune, 9), notesOf(tune, 48), slices.Repeat([]string{""}, 9), slices.Repeat([]string{"1"}, 1000)} {
			quarters, ok := impl.QuartersOfHeard(tune, heard)
			wantList(t, fmt.Sprintf("QuartersOfHeard %d texts of %s", len(heard), nameOf(tune)), quarters, ok, nil, false)
		}
	}
}

// TestNextQuarterWith plays tunes out, and goes back from quarters behind those that it asks for.
func TestNextQuarterWith(t *testing.T) {
	for i, tune := range someTunes() {
		wantNextWith(t, tune, 0, 150)
		if i%4 == 0 {
			wantNextWith(t, tune, impl.MaxQuarters-100, impl.MaxQuarters)
		}
	}
}

// wantNextWith expects NextQuarterWith to tell what is played at the quarters from, .., to, and behind them.
func wantNextWith(t *testing.T, tune []string, from int, to int) {
	t.Helper()
	const behind = 100
	var notes []string
	playOut(tune, to+behind, func(quarter int, p played) {
		if quarter >= from {
			notes = append(notes, p.notes)
		}
	})
	for bell := 1; bell <= impl.MaxBells; bell++ {
		want, wantOk := 0, false
		for i, played := range slices.Backward(notes) {
			if strings.ContainsRune(played, rune('0'+bell)) {
				want, wantOk = from+i, true
			}
			if from+i <= to {
				n, ok := impl.NextQuarterWith(tune, bell, from+i)
				wantResult(t, fmt.Sprintf("NextQuarterWith %d, %d of %s", bell, from+i, nameOf(tune)), n, ok, want, wantOk)
			}
		}
	}
}

func TestNextQuarterWithInTable(t *testing.T) {
	for _, c := range []struct {
		tune    string
		bell    int
		quarter int
		want    int
		wantOk  bool
	}{
		{"1", 1, 0, 0, true},
		{"1", 1, impl.MaxQuarters, impl.MaxQuarters, true},
		{"1", 2, 0, 0, false},
		{"1", 8, impl.MaxQuarters, 0, false},
		{"8", 8, 3, 3, true},
		{"12/21/11", 2, 0, 0, true},
		{"12/21/11", 2, 8, 9, true},
		{"12/21/11", 3, 8, 0, false},
		{"1/1/1/1/1/1/1/1/1/1/1/2", 2, 0, 5, true},
		{"1/1/1/1/1/1/1/1/1/1/1/2", 2, 5, 5, true},
		{"1/1/1/1/1/1/1/1/1/1/1/2", 2, 6, 10, true},
		{"1/1/1/1/1/1/1/1/1/1/1/2", 2, impl.MaxQuarters, impl.MaxQuarters + 3, true},
		{"2/1/1/1/1/1/1/1/1/1/1/1", 2, 0, 0, true},
		{"2/1/1/1/1/1/1/1/1/1/1/1", 2, 1, 5, true},
	} {
		n, ok := impl.NextQuarterWith(strings.Split(c.tune, "/"), c.bell, c.quarter)
		wantResult(t, fmt.Sprintf("NextQuarterWith %d, %d of %s", c.bell, c.quarter, c.tune), n, ok, c.want, c.wantOk)
	}
}

func TestBellsOf(t *testing.T) {
	for text, want := range map[string][]int{
		"1": {1}, "8": {8}, "11": {1}, "1/1": {1}, "12/21/11": {1, 2}, "87654321": {1, 2, 3, 4, 5, 6, 7, 8}, "8/1": {1, 8}, "5/3/5/3": {3, 5},
		"1/1/1/1/1/1/1/1/1/1/1/71": {1, 7}, "2/4/6/8/1/3/5/7/1/1/1/1": {1, 2, 3, 4, 5, 6, 7, 8},
	} {
		bells, ok := impl.BellsOf(strings.Split(text, "/"))
		wantList(t, "BellsOf "+text, bells, ok, want, true)
	}
	for _, tune := range someTunes() {
		var want []int
		for bell := 1; bell <= impl.MaxBells; bell++ {
			if strings.ContainsRune(nameOf(tune), rune('0'+bell)) {
				want = append(want, bell)
			}
			_, everPlayed := impl.NextQuarterWith(tune, bell, 0)
			wantResult(t, fmt.Sprintf("bell %d of %s is ever played", bell, nameOf(tune)), everPlayed, true, slices.Contains(want, bell), true)
		}
		bells, ok := impl.BellsOf(tune)
		wantList(t, "BellsOf "+nameOf(tune), bells, ok, want, true)
	}
}

// TestTurnTune also listens: a tune that is turned to where it stands behind some hours sounds as it does from then on.
func TestTurnTune(t *testing.T) {
	for _, tune := range someTunes() {
		for k := -3; k <= len(tune)+3; k++ {
			what := fmt.Sprintf("TurnTune %d of %s", k, nameOf(tune))
			turned, ok := impl.TurnTune(tune, k)
			if k < 0 || k >= len(tune) {
				wantList(t, what, turned, ok, nil, false)
				continue
			}
			var want []string
			for i := range tune {
				want = append(want, append(tune[:len(tune):len(tune)], tune...)[i+k])
			}
			wantList(t, what, turned, ok, want, true)
		}
		for hours := range 12 {
			stands, _ := impl.StandsAt(tune, 4*hours)
			turned, _ := impl.TurnTune(tune, stands)
			wantList(t, fmt.Sprintf("%s from the hour %d on", nameOf(tune), hours), notesOf(turned, 40), true, notesOf(tune, 4*hours+40)[4*hours:], true)
		}
		for _, k := range []int{math.MinInt, math.MaxInt, 12, 13} {
			turned, ok := impl.TurnTune(tune, k)
			wantList(t, fmt.Sprintf("TurnTune %d of %s", k, nameOf(tune)), turned, ok, nil, false)
		}
	}
	turned, ok := impl.TurnTune([]string{"12", "21", "11"}, 2)
	wantList(t, "TurnTune 2", turned, ok, []string{"11", "12", "21"}, true)
}

func TestMirrorTune(t *testing.T) {
	for text, want := range map[string]string{
		"1": "8", "8": "1", "12345678": "87654321", "12/21/11": "87/78/88", "4/5": "5/4", "1/2/3/4/5/6/7/8/1/1/1/1": "8/7/6/5/4/3/2/1/8/8/8/8",
	} {
		mirrored, ok := impl.MirrorTune(strings.Split(text, "/"))
		wantList(t, "MirrorTune "+text, mirrored, ok, strings.Split(want, "/"), true)
	}
	for _, tune := range someTunes() {
		mirrored, ok := impl.MirrorTune(tune)
		wantList(t, "MirrorTune "+nameOf(tune), mirrored, ok, strings.Split(strings.NewReplacer("1", "8", "2", "7", "3", "6", "4", "5", "5", "4", "6", "3", "7", "2", "8", "1").Replace(nameOf(tune)), "/"), true)
		again, ok := impl.MirrorTune(mirrored)
		wantList(t, "MirrorTune twice "+nameOf(tune), again, ok, tune, true)
	}
}

// TestIsSameTune listens for a hundred hours: no two tunes take longer until both stand as at first.
func TestIsSameTune(t *testing.T) {
	tunes := someTunes()
	for _, tune := range someTunes() {
		if 2*len(tune) <= impl.MaxPhrases {
			tunes = append(tunes, slices.Repeat(tune, 2))
		}
	}
	var heard [][]string
	for _, tune := range tunes {
		heard = append(heard, notesOf(tune, 400))
	}
	for i, a := range tunes {
		for j, b := range tunes {
			same, ok := impl.IsSameTune(a, b)
			wantResult(t, fmt.Sprintf("IsSameTune %s and %s", nameOf(a), nameOf(b)), same, ok, slices.Equal(heard[i], heard[j]), true)
		}
	}
}

// TestIsSameTuneInTable tries tunes that differ late: at the quarters 24, 23, 21, 18 and 17, but not before; and tunes that are
// cut into phrases elsewhere.
func TestIsSameTuneInTable(t *testing.T) {
	for _, c := range []struct {
		a, b string
		want bool
	}{
		{"1", "1", true},
		{"1", "2", false},
		{"1", "11", false},
		{"11", "1/1", false},
		{"1", "1/1/1/1/1/1/1/1/1/1/1/1", true},
		{"1", "1/1/1/1/1/1/1/1/1/1/1/2", false},
		{"1/1/1/1/1", "1/1/1/1/1/1/1", true},
		{"12/21/11", "12/21/11/12/21/11", true},
		{"12/21/11", "12/21/11/12/21/11/12/21/11", true},
		{"12/21/11", "21/11/12", false},
		{"12/21/11", "12/21/11/12", false},
		{"12/1", "1/21", false},
		{"12/34/56/78/12/34/56/78/12/34", "12/3/456/78/12/34/56/7/812/34", true},
		{"12/34/56/78/12/34/56/78/12/34", "12/3/456/78/12/34/56/7/812/43", false},
		{"12/34/56/78/12/34/56/78/12/34", "12/3/456/78/12/34/567/8/123/4", true},
		{"12/34/56/78/12/34/56/78/12/34", "12/34/56/78/12/345/6/78/12/34", false},
		{"11/11/11/111/1/111/1/111/11/11/11", "11/111/1/11/111/11/11/11/11/11/11/11", false},
		{"11/1/11/1/1/11/1/1/1", "11/1/11/1/1/11/1/1/11/1/1/1", false},
		{"11/11/11/11/11/11/11/1/111", "11/11/11/1/111/11/11/11/11/11/11", false},
		{"1/1/11/1/1/11/1/1", "1/1/11/1/1/11/1/1/1/1/11/1", false},
		{"11/11/1/111/11/11/11", "11/11/1/111/11/11/1/111/11/1/111/11", false},
	} {
		a, b := strings.Split(c.a, "/"), strings.Split(c.b, "/")
		same, ok := impl.IsSameTune(a, b)
		wantResult(t, "IsSameTune "+c.a+" and "+c.b, same, ok, c.want, true)
		same, ok = impl.IsSameTune(b, a)
		wantResult(t, "IsSameTune "+c.b+" and "+c.a, same, ok, c.want, true)
		wantResult(t, "heard of "+c.a+" and "+c.b, slices.Equal(notesOf(a, 400), notesOf(b, 400)), true, c.want, true)
	}
}

// fewest is an independent FewestHeard: so many quarters tell the quarter if all lists of them differ.
func fewest(tune []string) (int, bool) {
	around := 4 * aroundOf(tune)
	notes := notesOf(tune, around+8)
	for count := 1; count <= 8; count++ {
		lists := map[string]bool{}
		for quarter := range around {
			lists[strings.Join(notes[quarter:quarter+count], " ")] = true
		}
		if len(lists) == around {
			return count, true
		}
	}
	return 0, false
}

func TestFewestHeard(t *testing.T) {
	for _, c := range []struct {
		tune   string
		want   int
		wantOk bool
	}{
		{"1", 1, true},
		{"8", 1, true},
		{"1/1", 1, true},
		{"1/1/1/1/1/1/1/1/1/1", 1, true},
		{"12/21/11", 1, true},
		{"1/1/2", 2, true},
		{"1/1/1/1/11/1/1/1/1/1", 2, true},
		{"1/1/1/1/1/2", 3, true},
		{"1/1/1/1/1/1/1/1/2", 4, true},
		{"1/1/1/1/1/11", 5, true},
		{"1/1/1/1/1/1/1/11", 6, true},
		{"1/1/1/1/1/1/1/11/1/1/1/11", 7, true},
		{"1/1/1/1/1/1/1/1/1/1/1/11", 8, true},
		{"1/1/1/1/1/11/1/1/1/11/11", 0, false},
		{"1/1/1/1/1/1/1/11/11", 0, false},
		{"1/1/1/1/1/1/1/1/1/1/11", 0, false},
		{"1/1/1", 0, false},
		{"1/2/1/2", 0, false},
		{"1/1/1/1/1/1/1/1/1/1/1/1", 0, false},
	} {
		n, ok := impl.FewestHeard(strings.Split(c.tune, "/"))
		wantResult(t, "FewestHeard "+c.tune, n, ok, c.want, c.wantOk)
	}
	tunes := someTunes()
	for phrases := 1; phrases <= 12; phrases++ {
		for pattern := range 64 {
			tune := slices.Repeat([]string{"1"}, phrases)
			for i := range min(phrases, 6) {
				tune[i] = strings.Repeat("1", 1+pattern>>i&1)
			}
			tunes = append(tunes, tune)
		}
	}
	for _, tune := range tunes {
		n, ok := impl.FewestHeard(tune)
		want, wantOk := fewest(tune)
		wantResult(t, "FewestHeard "+nameOf(tune), n, ok, want, wantOk)
	}
}

func TestFullHours(t *testing.T) {
	for text, want := range map[string]string{
		"1": "1111", "8": "8888", "1/2": "1212", "12/21/11": "12211112 21111221 11122111", "1/2/3/4/5": "2345", "1/1/1": "1111 1111 1111",
		"1/2/3/4": "3412 1234", "1/2/3/4/5/6/7/8/1/2": "7812", "1/1/1/1/1/1/1/1/1/1/1/2": "1111 1111 1111 1111 1211 1112",
	} {
		hours, ok := impl.FullHours(strings.Split(text, "/"))
		wantList(t, "FullHours "+text, hours, ok, strings.Fields(want), true)
	}
	for _, tune := range someTunes() {
		var want []string
		for i, notes := range notesOf(tune, 4*aroundOf(tune)) {
			if i%4 == 3 {
				want = append(want, notes)
			}
		}
		hours, ok := impl.FullHours(tune)
		wantList(t, "FullHours "+nameOf(tune), hours, ok, want, true)
	}
}

func TestTuneText(t *testing.T) {
	for _, tune := range someTunes() {
		want := tune[0]
		for _, phrase := range tune[1:] {
			want += "/" + phrase
		}
		text, ok := impl.TuneText(tune)
		wantResult(t, "TuneText", text, ok, want, true)
		parsed, ok := impl.ParseTune(text)
		wantList(t, "ParseTune "+text, parsed, ok, tune, true)
	}
}

func TestParseNoTune(t *testing.T) {
	texts := []string{
		"/", "//", "1/", "/1", "1//2", "1/2/", "/1/2", "1 2", "1,2", "1/ 2", "1 /2", "1/2\n", "\n1/2", "1\\2", "12/21/11/", "12/21/9", "12/0/11", "1/x/2", "1/123456781",
		strings.Repeat("1/", 12) + "1", strings.Repeat("1/", 12), strings.Repeat("1/", 100000) + "1", strings.Repeat("/", 11), strings.Repeat("/", 100000), "1\xff/1", "1\u2044" + "2", "1\uff0f" + "2",
	}
	for _, text := range noPhrases {
		if text != "1/2" {
			texts = append(texts, text, text+"/1", "1/"+text)
		}
	}
	for _, text := range texts {
		tune, ok := impl.ParseTune(text)
		wantList(t, fmt.Sprintf("ParseTune %.40q", text), tune, ok, nil, false)
	}
}
