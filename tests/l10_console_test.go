package tests

import (
	"fmt"
	"math/rand"
	"regexp"
	"slices"
	"strconv"
	"strings"
	"testing"

	"loop.example/g01241/impl"
)

func desk(h int, time impl.Turn, c impl.Clock) impl.Desk {
	return impl.Desk{Hours: h, Time: time, Clock: c}
}

// someDesks are desks whose parts are at their limits, and others.
func someDesks() []impl.Desk {
	return []impl.Desk{
		desk(12, turn(0, 1), clock(0, 1, 73, 72)), desk(12, turn(1, 8), clock(0, 1, 73, 72)), desk(12, turn(1, 11), clock(1, 2, 73, 72)), desk(12, turn(1, 143), clock(1, 2, 1, 1)),
		desk(2, turn(1, 3), clock(0, 1, 1, 1)), desk(24, turn(1, 575), clock(999, 1000, 1000, 999)), desk(24, turn(999999, 1000000), clock(1, 997, 1, 1000)),
		desk(7, turn(1, 999983), clock(998, 999, 1000, 1)), desk(13, turn(5, 1001), clock(136, 137, 74, 1)), desk(10, turn(9, 1000), clock(1, 3, 2, 3)),
	}
}

// noDesks are values that break the rules for desks, each in one part.
func noDesks() []impl.Desk {
	c := clock(0, 1, 73, 72)
	list := []impl.Desk{{}}
	for _, h := range noDials {
		list = append(list, desk(h, turn(0, 1), c))
	}
	for _, bad := range noTurns {
		list = append(list, desk(12, bad, c))
	}
	for _, bad := range noClocks() {
		list = append(list, desk(12, turn(0, 1), bad))
	}
	return list
}

// someLines are valid lines, at least one of each kind, all of which succeed on the first desk.
var someLines = []string{
	"dial 24", "set 01:05:27+3/11", "turn 1 8", "on 1 8", "off 1 8", "mirror", "swap", "clock 2 3", "show", "where", "long", "angle", "small", "with 1 2", "shown 36/1",
	"ahead 36/1", "right", "every", "unsure", "other 10", "leap 1900", "best 2422 10000 40",
}

// scriptOf ends each line by a newline.
func scriptOf(lines ...string) string {
	return strings.Join(append(slices.Clone(lines), ""), "\n")
}

// lineForm is a row of the document's table: how many numbers follow the name, or whether a text does, and the calls that are named.
type lineForm struct {
	numbers int
	text    string
	call    func(d *impl.Desk, n []int, text string) (string, bool)
}

// changing is the form of a line whose effect is a new time.
func changing(numbers int, text string, effect func(d *impl.Desk, n []int, text string) (impl.Turn, bool)) lineForm {
	return lineForm{numbers, text, func(d *impl.Desk, n []int, text string) (string, bool) {
		x, ok := effect(d, n, text)
		if !ok {
			return "", false
		}
		d.Time = x
		return impl.TimeText(d.Hours, x)
	}}
}

// telling is the form of a line whose reply is a turn.
func telling(text string, tell func(d *impl.Desk, text string) (impl.Turn, bool)) lineForm {
	return lineForm{0, text, func(d *impl.Desk, _ []int, text string) (string, bool) {
		x, ok := tell(d, text)
		return fmt.Sprintf("%d/%d", x.Num, x.Den), ok
	}}
}

// tellingSpan is the form of a line whose reply is a span of the clock.
func tellingSpan(tell func(impl.Clock) (impl.Span, bool)) lineForm {
	return lineForm{0, "", func(d *impl.Desk, _ []int, _ string) (string, bool) {
		s, ok := tell(d.Clock)
		return fmt.Sprintf("%d/%d", s.Num, s.Den), ok
	}}
}

// effectForms are the rows for lines with an effect.
func effectForms() map[string]lineForm {
	made := func(n []int) impl.Turn {
		x, _ := impl.MakeTurn(n[0], n[1])
		return x
	}
	return map[string]lineForm{
		"set":    changing(0, "time", func(d *impl.Desk, _ []int, text string) (impl.Turn, bool) { return impl.ParseTime(d.Hours, text) }),
		"turn":   changing(2, "", func(_ *impl.Desk, n []int, _ string) (impl.Turn, bool) { return impl.MakeTurn(n[0], n[1]) }),
		"on":     changing(2, "", func(d *impl.Desk, n []int, _ string) (impl.Turn, bool) { return impl.AddTurns(d.Time, made(n)) }),
		"off":    changing(2, "", func(d *impl.Desk, n []int, _ string) (impl.Turn, bool) { return impl.LessTurn(d.Time, made(n)) }),
		"mirror": changing(0, "", func(d *impl.Desk, _ []int, _ string) (impl.Turn, bool) { return impl.MirrorTurn(d.Time) }),
		"swap":   changing(0, "", func(d *impl.Desk, _ []int, _ string) (impl.Turn, bool) { return impl.ExchangedTime(d.Hours, d.Time) }),
		"dial": {1, "", func(d *impl.Desk, n []int, _ string) (string, bool) {
			d.Hours = n[0]
			return impl.TimeText(n[0], d.Time)
		}},
		"clock": {2, "", func(d *impl.Desk, n []int, _ string) (string, bool) {
			d.Clock = impl.Clock{Start: d.Time, Num: n[0], Den: n[1]}
			text, _ := impl.TimeText(d.Hours, d.Time)
			return text, impl.IsClock(d.Clock)
		}},
	}
}

// replyForms are the rows for lines that ask.
func replyForms() map[string]lineForm {
	spanOf := func(text string) impl.Span {
		s, _ := impl.ParseSpan(text)
		return s
	}
	return map[string]lineForm{
		"where": telling("", func(d *impl.Desk, _ string) (impl.Turn, bool) { return d.Time, true }),
		"long":  telling("", func(d *impl.Desk, _ string) (impl.Turn, bool) { return impl.LongHand(d.Hours, d.Time) }),
		"angle": telling("", func(d *impl.Desk, _ string) (impl.Turn, bool) { return impl.AngleOf(d.Hours, d.Time) }),
		"small": telling("", func(d *impl.Desk, _ string) (impl.Turn, bool) { return impl.SmallAngle(d.Hours, d.Time) }),
		"shown": telling("span", func(d *impl.Desk, text string) (impl.Turn, bool) { return impl.ShownAfter(d.Clock, spanOf(text)) }),
		"ahead": telling("span", func(d *impl.Desk, text string) (impl.Turn, bool) { return impl.AheadAfter(d.Clock, spanOf(text)) }),
		"right": tellingSpan(impl.FirstRight),
		"every": tellingSpan(impl.RightEvery),
		"show":  {0, "", func(d *impl.Desk, _ []int, _ string) (string, bool) { return impl.TimeText(d.Hours, d.Time) }},
		"other": {1, "", func(d *impl.Desk, n []int, _ string) (string, bool) { return impl.TellOther(d.Hours, n[0], d.Time) }},
		"unsure": {0, "", func(d *impl.Desk, _ []int, _ string) (string, bool) {
			n, ok := impl.CountUnsure(d.Hours)
			return fmt.Sprint(n), ok
		}},
		"leap": {1, "", func(_ *impl.Desk, n []int, _ string) (string, bool) {
			is, ok := impl.IsLeapYear(rule(4, 100, 400), n[0])
			return map[bool]string{true: "yes", false: "not"}[is], ok
		}},
		"with": {2, "", func(d *impl.Desk, n []int, _ string) (string, bool) {
			angle, _ := impl.MakeTurn(n[0], n[1])
			times, ok := impl.TimesWithAngle(d.Hours, angle)
			text := ""
			for _, x := range times {
				text += fmt.Sprintf(",%d/%d", x.Num, x.Den)
			}
			return strings.TrimPrefix(text, ","), ok
		}},
		"best": {3, "", func(_ *impl.Desk, n []int, _ string) (string, bool) {
			rules, ok := impl.BestRules(n[0], n[1], n[2])
			text := ""
			for _, r := range rules {
				text += fmt.Sprintf(",%d/%d", r[0], r[1])
			}
			return strings.TrimPrefix(text, ","), ok
		}},
	}
}

var numberWord = regexp.MustCompile(`^(0|[1-9][0-9]{0,5})$`)

// console executes lines by the calls that they name.
type console map[string]lineForm

func newConsole() console {
	c := console(effectForms())
	for name, form := range replyForms() {
		c[name] = form
	}
	return c
}

// line is an independent DeskLine for desks and lines.
func (c console) line(d impl.Desk, line string) (impl.Desk, string) {
	words := strings.Split(line, " ")
	form, isKnown := c[words[0]]
	count := form.numbers
	if form.text != "" {
		count = 1
	}
	if !isKnown || len(words) != count+1 {
		return d, "what"
	}
	var numbers []int
	for _, word := range words[1 : form.numbers+1] {
		if !numberWord.MatchString(word) {
			return d, "what"
		}
		n, _ := strconv.Atoi(word)
		numbers = append(numbers, n)
	}
	text := words[len(words)-1]
	if _, isSpan := impl.ParseSpan(text); form.text == "span" && !isSpan {
		return d, "what"
	}
	after := d
	reply, ok := form.call(&after, numbers, text)
	if !ok {
		return d, "no"
	}
	return after, reply
}

// script is an independent RunScript, DeskAfter and FailedLines of the lines of a script.
func (c console) script(lines []string) (replies []string, after impl.Desk, failed []int) {
	after = desk(12, turn(0, 1), clock(0, 1, 73, 72))
	for i, line := range lines {
		var reply string
		after, reply = c.line(after, line)
		replies = append(replies, reply)
		if reply == "no" || reply == "what" {
			failed = append(failed, i+1)
		}
	}
	return replies, after, failed
}

// wantScript expects what a script leads to, in all three ways in which it is told.
func wantScript(t *testing.T, s string, replies []string, after impl.Desk, failed []int) {
	t.Helper()
	what := fmt.Sprintf(" of %.200q", s)
	got, ok := impl.RunScript(s)
	wantList(t, "RunScript"+what, got, ok, replies, true)
	d, ok := impl.DeskAfter(s)
	wantResult(t, "DeskAfter"+what, d, ok, after, true)
	numbers, ok := impl.FailedLines(s)
	wantList(t, "FailedLines"+what, numbers, ok, failed, true)
}

func wantNoScript(t *testing.T, s string) {
	t.Helper()
	what := fmt.Sprintf(" of %.60q with %d bytes", s, len(s))
	got, ok := impl.RunScript(s)
	wantList(t, "RunScript"+what, got, ok, nil, false)
	d, ok := impl.DeskAfter(s)
	wantFailure(t, "DeskAfter"+what, d, ok)
	numbers, ok := impl.FailedLines(s)
	wantList(t, "FailedLines"+what, numbers, ok, nil, false)
}

// wantLine expects the desk behind a line and its reply.
func wantLine(t *testing.T, d impl.Desk, line string, want impl.Desk, wantReply string) {
	t.Helper()
	after, reply, ok := impl.DeskLine(d, line)
	if after != want || reply != wantReply || !ok {
		t.Errorf("DeskLine of %v and %.100q: got %v, %.200q, %v, want %v, %.200q", d, line, after, reply, ok, want, wantReply)
	}
}

// wantRefused expects that a line changes nothing, on each desk.
func wantRefused(t *testing.T, line string, wantReply string) {
	t.Helper()
	for _, d := range someDesks() {
		wantLine(t, d, line, d, wantReply)
	}
}

func TestConstantsOfConsole(t *testing.T) {
	if impl.MaxScript != 3000 || impl.MaxLines != 50 {
		t.Error("constants", impl.MaxScript, impl.MaxLines)
	}
}

func TestFirstDesk(t *testing.T) {
	want := desk(12, turn(0, 1), clock(0, 1, 73, 72))
	wantResult(t, "FirstDesk", impl.FirstDesk(), impl.IsDesk(want), want, true)
}

func TestIsDesk(t *testing.T) {
	for _, d := range someDesks() {
		wantResult(t, fmt.Sprint("IsDesk of ", d), impl.IsDesk(d), true, true, true)
	}
	everyDial(func(h int) {
		for _, x := range someTurns() {
			for _, c := range someClocks()[:12] {
				wantResult(t, fmt.Sprint("IsDesk of ", h, x, c), impl.IsDesk(desk(h, x, c)), true, true, true)
			}
		}
	})
	for _, d := range noDesks() {
		wantResult(t, fmt.Sprint("IsDesk of ", d), impl.IsDesk(d), true, false, true)
	}
}

func TestScriptOfExample(t *testing.T) {
	s := "turn 1 8\nlong\nangle\non 1 8\nset 01:05:27+3/11\nwhere\nevery\nahead 36/1\nunsure\nother 10\nleap 1900\nbest 2422 10000 40\nclock 2 4\nset 9\nfly\n"
	replies := []string{
		"01:30:00", "1/2", "3/8", "03:00:00", "01:05:27+3/11", "1/11", "72/1", "1/2", "132", "00:54:32+8/11", "not", "0/1,1/4,7/29,8/33", "no", "no", "what",
	}
	wantScript(t, s, replies, desk(12, turn(1, 11), clock(0, 1, 73, 72)), []int{13, 14, 15})
}

// TestReplies executes a line behind others, all told with | between them, on the first desk.
func TestReplies(t *testing.T) {
	for lines, want := range map[string]string{
		"show": "00:00:00", "where": "0/1", "long": "0/1", "angle": "0/1", "small": "0/1", "mirror": "00:00:00", "right": "72/1", "every": "72/1", "unsure": "132",

		"turn 1 8|show": "01:30:00", "turn 1 8|where": "1/8", "turn 1 8|long": "1/2", "turn 1 8|angle": "3/8", "turn 1 8|small": "3/8", "turn 1 8|unsure": "132",
		"turn 7 8|angle": "5/8", "turn 7 8|small": "3/8", "turn 1 22|small": "1/2", "turn 1 999983|long": "12/999983",

		"dial 2": "00:00:00", "dial 24": "00:00:00", "dial 1": "no", "dial 25": "no", "dial 0": "no", "dial 999999": "no", "dial 1000000": "what",
		"turn 1 8|dial 24": "03:00:00", "turn 1 8|dial 10": "01:15:00", "turn 1 8|dial 2": "00:15:00", "turn 1 8|dial 24|where": "1/8", "turn 1 8|dial 24|long": "0/1",
		"turn 1 8|dial 24|angle": "7/8", "turn 1 8|dial 24|small": "1/8", "dial 2|unsure": "2", "dial 24|unsure": "552", "turn 1 8|dial 25|show": "01:30:00", "dial 1|unsure": "132",

		"set 01:30:00": "01:30:00", "set 01:30:00|where": "1/8", "set 01:05:27+3/11|where": "1/11", "set 11:59:59|where": "43199/43200", "set 12:00:00": "no", "set 13:00:00": "no",
		"dial 24|set 13:00:00": "13:00:00", "dial 24|set 23:59:59": "23:59:59", "dial 24|set 24:00:00": "no", "dial 2|set 02:00:00": "no", "dial 2|set 01:59:59": "01:59:59",
		"dial 2|set 00:00:00+1/100": "00:00:00+1/100", "set 00:00:00+1/100": "no", "set 00:00:00+1/23": "00:00:00+1/23", "set 00:00:00+1/24": "no",
		"set 9": "no", "set ": "no", "set": "what", "set 01:30:00 ": "what", "set  01:30:00": "what", "set 1:30:00": "no", "set 01:60:00": "no", "set 01:05:27+6/22": "no", "set 01:05:27+0/1": "no",
		"set 1/8": "no", "set -1:30:00": "no", "turn 1 8|set 9|show": "01:30:00",

		"turn 9 8": "01:30:00", "turn 2 16": "01:30:00", "turn 2 16|where": "1/8", "turn 0 5": "00:00:00", "turn 0 5|where": "0/1", "turn 5 0": "no", "turn 0 0": "no", "turn 999999 999999|where": "0/1",
		"turn 1 999999": "00:00:00+1600/37037", "turn 999999 1": "00:00:00", "turn 999998 999999|where": "999998/999999", "turn 999999 2|where": "1/2", "turn 1 8|turn 1 0|where": "1/8",
		"turn -1 2": "what", "turn 1 -2": "what", "turn 1 1000000": "what", "turn 1000000 1": "what",

		"turn 3 4|on 1 2": "03:00:00", "turn 3 4|on 1 2|where": "1/4", "turn 1 4|off 1 2": "09:00:00", "turn 1 4|off 1 2|where": "3/4", "on 9 8|where": "1/8", "off 9 8|where": "7/8", "on 2 16|where": "1/8",
		"off 2 16|where": "7/8", "on 0 7|where": "0/1", "on 1 0": "no", "off 1 0": "no", "on 0 0": "no", "off 0 0": "no", "turn 1 1000|on 1 1001": "no", "turn 1 1000|off 1 1001": "no",
		"turn 1 1000|on 1 1001|where": "1/1000", "turn 1 1000|on 999 1000|where": "0/1", "turn 1 1000|off 1 1000|where": "0/1", "on -1 8": "what", "off -1 8": "what",

		"turn 1 8|mirror": "10:30:00", "turn 1 8|mirror|where": "7/8", "turn 1 8|mirror|mirror|where": "1/8", "turn 1 2|mirror|where": "1/2",

		"swap": "00:00:00", "turn 1 143|swap": "01:00:25+25/143", "turn 1 143|swap|where": "12/143", "turn 1 143|swap|swap|where": "1/143", "turn 1 11|swap": "01:05:27+3/11", "turn 1 11|swap|where": "1/11",
		"turn 1 8|swap": "no", "turn 1 8|swap|where": "1/8", "turn 1 143|dial 24|swap": "no", "turn 1 143|dial 24|swap|where": "1/143", "dial 2|turn 1 3|swap|where": "2/3",

		"turn 1 2|clock 73 72": "06:00:00", "turn 1 2|clock 73 72|right": "36/1", "turn 1 2|clock 73 72|every": "72/1", "turn 1 2|clock 73 72|turn 1 3|right": "36/1", "turn 1 2|clock 73 72|shown 0/1": "1/2",
		"clock 2 1|right": "1/1", "clock 1 2|right": "2/1", "clock 1 2|every": "2/1", "clock 71 72|every": "72/1", "clock 1000 1": "00:00:00", "clock 1 1000": "00:00:00", "clock 1001 1": "no", "clock 1 1001": "no",
		"clock 999 1000|every": "1000/1", "clock 1000 999|every": "999/1", "clock 2 4": "no", "clock 4 2": "no", "clock 73 0": "no", "clock 0 73": "no", "clock 0 1": "no", "clock 0 0": "no", "clock 2 2": "no", "clock 146 144": "no",
		"clock 1 1": "00:00:00", "clock 1 1|right": "no", "clock 1 1|every": "no", "turn 1 2|clock 1 1|right": "no", "turn 1 2|clock 1 1|every": "no", "clock 1 1|ahead 7/3": "0/1", "turn 1 2|clock 1 1|ahead 7/3": "1/2",
		"turn 1 1000|clock 1 2|shown 0/1": "1/1000", "turn 1 1001|clock 1 2": "no", "turn 1 1001|clock 1 2|every": "72/1", "turn 1 2|clock 2 4|shown 0/1": "0/1", "turn 1 1001|clock 1 2|show": "00:00:43+157/1001",
		"turn 2 4|clock 2 3|shown 3/4": "0/1", "turn 1 137|mirror|clock 74 1|right": "no",

		"shown 0/1": "0/1", "shown 1/1": "1/72", "shown 36/1": "1/2", "shown 1/2": "73/144", "shown 1000000/1": "8/9", "ahead 0/1": "0/1", "ahead 1/1": "1/72", "ahead 36/1": "1/2", "ahead 1/2": "1/144", "ahead 72/1": "0/1",
		"turn 1 1000|clock 1 999|shown 1/10000": "no", "turn 1 1000|clock 1 999|ahead 1/10000": "562/624375", "turn 1 997|clock 1 999|ahead 1/9973": "no", "shown 1/10000": "73/720000", "clock 71 72|ahead 36/1": "1/2", "clock 1 2|ahead 1/2": "3/4",
		"shown 2/4": "what", "shown 1/0": "what", "shown 1000001/1": "what", "shown 1/10001": "what", "shown -1/2": "what", "shown 0/2": "what", "shown 1": "what", "shown ": "what", "shown": "what", "shown 01/2": "what",
		"ahead 2/4": "what", "ahead 1/0": "what", "ahead 1000001/1": "what", "ahead 1/10001": "what", "ahead -1/2": "what", "ahead 0/2": "what", "ahead 1": "what", "ahead ": "what", "ahead": "what", "ahead +1/2": "what",

		"with 1 2": "1/22,3/22,5/22,7/22,9/22,1/2,13/22,15/22,17/22,19/22,21/22", "with 0 1": "0/1,1/11,2/11,3/11,4/11,5/11,6/11,7/11,8/11,9/11,10/11", "with 2 4|where": "0/1",
		"dial 2|with 1 2": "1/2", "dial 2|with 2 4": "1/2", "dial 2|with 1 999999": "1/999999", "dial 3|with 3 2": "1/4,3/4", "with 1 999999": "no", "with 1 0": "no", "with 0 0": "no", "dial 3|with -1 2": "what",

		"other 12": "00:00:00", "turn 1 8|other 12": "01:30:00", "turn 1 8|other 10": "01:15:00", "turn 1 8|other 24": "03:00:00", "turn 1 8|other 2": "00:15:00", "turn 1 8|other 10|show": "01:30:00",
		"other 1": "no", "other 25": "no", "other 0": "no", "other 1000000": "what", "other -12": "what",

		"leap 0": "no", "leap 1": "not", "leap 4": "yes", "leap 100": "not", "leap 400": "yes", "leap 1900": "not", "leap 2000": "yes", "leap 2024": "yes", "leap 999996": "yes", "leap 999999": "not", "leap 1000000": "what", "leap -4": "what",

		"best 2422 10000 200": "0/1,1/4,7/29,8/33,31/128", "best 2422 10000 128": "0/1,1/4,7/29,8/33,31/128", "best 2422 10000 127": "0/1,1/4,7/29,8/33", "best 2422 10000 1": "0/1", "best 1 2 1": "0/1", "best 1 2 2": "0/1,1/2",
		"best 2422 10000 100000": "0/1,1/4,7/29,8/33,31/128,132/545,163/673,295/1218,458/1891,1211/5000", "best 2422 10000 100001": "no", "best 2422 10000 0": "no", "best 1 100000 100000": "0/1,1/100000", "best 1 100001 1": "no",
		"best 0 2 9": "no", "best 1 1 9": "no", "best 2 1 9": "no", "best 1 0 9": "no", "best 0 0 0": "no", "best 1 2 1000000": "what", "best 1 2 -1": "what", "best 2 4 9": "0/1,1/2",

		"": "what", " ": "what", " 1": "what", " 1 8": "what", " 36/1": "what", " 01:30:00": "what", " 1 2 9": "what", "fly": "what", "Show": "what", "SHOW": "what", "sho": "what", "shows": "what", " show": "what", "show ": "what", "show 1": "what", "show\t": "what", "show\r": "what", "\tshow": "what", "no": "what",
		"what": "what", "-": "what", "\x00": "what", "\xff\xfe": "what", "12": "what", "N": "what", "dial N": "what", "set T": "no", "shown S": "what", "yes": "what", "mirror,": "what", "mirror swap": "what", "mirror, swap": "what",
	} {
		list := strings.Split(lines, "|")
		replies, ok := impl.RunScript(scriptOf(list...))
		if !ok || len(replies) != len(list) {
			t.Errorf("RunScript of %q: got %q, %v", lines, replies, ok)
			continue
		}
		wantResult(t, fmt.Sprintf("the reply to %q", lines), replies[len(replies)-1], ok, want, true)
	}
}

// TestEffects tells the desks behind lines with | between them.
func TestEffects(t *testing.T) {
	first := clock(0, 1, 73, 72)
	for lines, want := range map[string]impl.Desk{
		"dial 24":                             desk(24, turn(0, 1), first),
		"dial 24|dial 2":                      desk(2, turn(0, 1), first),
		"turn 1 8|dial 24":                    desk(24, turn(1, 8), first),
		"turn 2 16":                           desk(12, turn(1, 8), first),
		"set 01:30:00":                        desk(12, turn(1, 8), first),
		"dial 24|set 01:30:00":                desk(24, turn(1, 16), first),
		"on 1 8|on 1 8":                       desk(12, turn(1, 4), first),
		"off 1 8|off 1 8":                     desk(12, turn(3, 4), first),
		"on 1 8|mirror":                       desk(12, turn(7, 8), first),
		"turn 1 143|swap":                     desk(12, turn(12, 143), first),
		"turn 1 2|clock 2 3":                  desk(12, turn(1, 2), clock(1, 2, 2, 3)),
		"turn 1 2|clock 2 3|turn 0 1":         desk(12, turn(0, 1), clock(1, 2, 2, 3)),
		"clock 2 3|dial 7|turn 1 5|clock 3 2": desk(7, turn(1, 5), clock(1, 5, 3, 2)),
		"turn 1 2|clock 2 3|turn 1 8|dial 7|show|where|long|angle|small|with 1 3|shown 2/3|ahead 2/3|right|every|unsure|other 9|leap 4|best 1 3 9": desk(7, turn(1, 8), clock(1, 2, 2, 3)),
		"turn 1 2|clock 2 3|turn 1 5|dial 7|dial 25|set 07:00:00|turn 1 0|on 1 0|off 1 999983|swap|clock 2 2|with 1 0|other 1|leap 0|best 1 1 1":   desk(7, turn(1, 5), clock(1, 2, 2, 3)),
		"turn 1 2|clock 2 3|turn 1 8|dial 7|dial x|set|turn 1|on 1 2 3|off 01 2|swap 1|clock 1 +2|mirror |turn 1 1000000||fly":                     desk(7, turn(1, 8), clock(1, 2, 2, 3)),
	} {
		after, ok := impl.DeskAfter(scriptOf(strings.Split(lines, "|")...))
		wantResult(t, fmt.Sprintf("the desk behind %q", lines), after, ok, want, true)
	}
}

// TestAskingChangesNothing asks on each desk, whatever the reply is.
func TestAskingChangesNothing(t *testing.T) {
	forms, asked := replyForms(), 0
	for _, line := range someLines {
		name, _, _ := strings.Cut(line, " ")
		if _, asks := forms[name]; !asks {
			continue
		}
		asked++
		for _, d := range someDesks() {
			after, _, ok := impl.DeskLine(d, line)
			wantResult(t, fmt.Sprint("the desk ", d, " behind ", line), after, ok, d, true)
		}
	}
	if asked != len(forms) {
		t.Error("just", asked, "of", len(forms), "kinds of lines are asked")
	}
}

// TestLinesOnDesks executes a line of each kind on each desk.
func TestLinesOnDesks(t *testing.T) {
	c, kinds := newConsole(), map[string]bool{}
	for _, line := range someLines {
		name, _, _ := strings.Cut(line, " ")
		kinds[name] = true
		for _, d := range someDesks() {
			after, reply := c.line(d, line)
			wantLine(t, d, line, after, reply)
		}
		if _, reply := c.line(impl.FirstDesk(), line); reply == "no" || reply == "what" {
			t.Errorf("%q fails on the first desk", line)
		}
	}
	if len(kinds) != len(c) || len(c) != 22 {
		t.Error("there are", len(c), "kinds of lines, of which", len(kinds), "are executed")
	}
}

// TestBlanks gives lines a blank more, at each place, and a word more or less: none of them is understood but with an empty T.
func TestBlanks(t *testing.T) {
	for _, line := range someLines {
		words := strings.Split(line, " ")
		wantRefused(t, " "+line, "what")
		wantRefused(t, line+" ", "what")
		wantRefused(t, "  "+line+"  ", "what")
		wantRefused(t, line+" 1", "what")
		wantRefused(t, line+" x", "what")
		wantRefused(t, line+" 1 1 1 1", "what")
		wantRefused(t, line+strings.Repeat(" ", 1000), "what")
		wantRefused(t, strings.ToUpper(line), "what")
		wantRefused(t, "x"+line, "what")
		wantRefused(t, words[0]+"x"+strings.TrimPrefix(line, words[0]), "what")
		wantRefused(t, line[1:], "what")
		for _, other := range []string{"\t", "\r", "\x00", "\u00a0", "\v"} {
			wantRefused(t, words[0]+other+strings.TrimPrefix(line, words[0]), "what")
		}
		for i := 1; i < len(words); i++ {
			wantRefused(t, strings.Join(words[:i], " "), "what")
			wantRefused(t, strings.Join(slices.Insert(slices.Clone(words), i, ""), " "), "what")
			emptied := slices.Clone(words)
			emptied[i] = ""
			want := "what"
			if words[0] == "set" {
				want = "no"
			}
			wantRefused(t, strings.Join(emptied, " "), want)
		}
	}
}

// TestNumberWords puts words in the place of each number of a line.
func TestNumberWords(t *testing.T) {
	none := []string{
		"", "-", "+", "00", "01", "001", "0000000", "+0", "-0", "+1", "-1", "1.0", "1.", ".1", "1e1", "0x1", "0b1", "1_0", "1,0", "1/1", "x", "1x", "x1", "\t1", "1\t", "1\r", "\x001", "1\x00", "\xff",
		"1000000", "1000001", "9999999", "9223372036854775807", "9223372036854775808", "-9223372036854775808", "18446744073709551617", "4294967297", strings.Repeat("9", 1000), strings.Repeat("0", 1000),
		"\u0661", "\uff11", "one",
	}
	c := newConsole()
	for _, line := range someLines {
		words := strings.Split(line, " ")
		for i := 1; i <= c[words[0]].numbers; i++ {
			changed := slices.Clone(words)
			for _, word := range none {
				changed[i] = word
				wantRefused(t, strings.Join(changed, " "), "what")
			}
			for _, n := range []int{0, 1, 2, 9, 10, 12, 24, 25, 72, 99, 100, 999, 1000, 1001, 9999, 10000, 99999, 100000, 999998, 999999} {
				changed[i] = strconv.Itoa(n)
				for _, d := range someDesks() {
					after, reply := c.line(d, strings.Join(changed, " "))
					wantLine(t, d, strings.Join(changed, " "), after, reply)
					if reply == "what" {
						t.Errorf("%q is not understood", changed)
					}
				}
			}
		}
	}
}

// TestTextWords puts words in the places of the SpanText and of the TimeText.
func TestTextWords(t *testing.T) {
	for _, word := range []string{
		"", "/", "1/", "/1", "1", "1//1", "1/1/1", "2/4", "0/2", "0/0", "1/0", "-1/2", "1/-2", "+1/2", "1/+2", "01/2", "1/02", "1000001/1", "1/10001", "1.0/2", "x", "x/y", "1/2x", "00:00:00", "\x00/\xff",
		strings.Repeat("9", 1000) + "/1", "1/" + strings.Repeat("9", 1000), "9223372036854775808/1", "1/18446744073709551617",
	} {
		wantRefused(t, "shown "+word, "what")
		wantRefused(t, "ahead "+word, "what")
	}
	for _, word := range []string{
		"", ":", "::", "9", "1/8", "24:00:00", "0:00:00", "00:60:00", "00:00:60", "00:00:00+", "00:00:00+0/1", "00:00:00+2/4", "00:00:00+1/0", "00:00:00+1/1", "-0:00:00", "+1:00:00", "00-00-00", "00:00", "00:00:00:00",
		"00:00:00x", "\x00\x00:00:00", strings.Repeat("0", 1000), "00:00:00+1/999983",
	} {
		wantRefused(t, "set "+word, "no")
	}
	c := newConsole()
	for _, d := range someDesks() {
		for _, s := range append(someSpans(), span(0, 1), span(1000000, 9999)) {
			for _, name := range []string{"shown ", "ahead "} {
				line := name + fmt.Sprintf("%d/%d", s.Num, s.Den)
				after, reply := c.line(d, line)
				wantLine(t, d, line, after, reply)
			}
		}
		for _, x := range someTurns() {
			everyDial(func(h int) {
				line := "set " + wantText(h, ratOf(x))
				after, reply := c.line(d, line)
				wantLine(t, d, line, after, reply)
				if h == d.Hours && after != desk(h, x, d.Clock) {
					t.Errorf("%q leads to %v", line, after)
				}
			})
		}
	}
}

func TestDeskLine(t *testing.T) {
	first := impl.FirstDesk()
	wantLine(t, first, "", first, "what")
	wantLine(t, first, strings.Repeat("x", impl.MaxScript), first, "what")
	wantLine(t, first, "set "+strings.Repeat("0", impl.MaxScript-4), first, "no")
	wantLine(t, first, "turn 1 8", desk(12, turn(1, 8), first.Clock), "01:30:00")
	wantLine(t, desk(10, turn(1, 8), first.Clock), "show", desk(10, turn(1, 8), first.Clock), "01:15:00")
	for _, line := range []string{
		"\n", "show\n", "\nshow", "show\nshow", "turn 1 8\n", "turn 1\n8", "fly\n", "show\n\n", strings.Repeat("x", impl.MaxScript+1), "set " + strings.Repeat("0", impl.MaxScript-3), strings.Repeat(" ", impl.MaxScript+1),
		strings.Repeat("x", impl.MaxScript-1) + "\n", strings.Repeat("x", 1000000),
	} {
		for _, d := range someDesks() {
			wantNoLine(t, d, line)
		}
	}
	for _, d := range noDesks() {
		for _, line := range append([]string{"", "fly", "set 9", "dial 12", "turn 0 1", "clock 1 1\n"}, someLines...) {
			wantNoLine(t, d, line)
		}
	}
}

func wantNoLine(t *testing.T, d impl.Desk, line string) {
	t.Helper()
	after, reply, ok := impl.DeskLine(d, line)
	if after != (impl.Desk{}) || reply != "" || ok {
		t.Errorf("DeskLine of %v and %.60q: got %v, %q, %v", d, line, after, reply, ok)
	}
}

func TestLimitsOfScripts(t *testing.T) {
	first := impl.FirstDesk()
	wantScript(t, "", nil, first, nil)
	wantScript(t, "\n", []string{"what"}, first, []int{1})
	wantScript(t, "show\n", []string{"00:00:00"}, first, nil)
	wantScript(t, "show\r\n", []string{"what"}, first, []int{1})
	wantScript(t, "\n\nshow\n\nset 9\n", []string{"what", "what", "00:00:00", "what", "no"}, first, []int{1, 2, 4, 5})
	all := make([]int, impl.MaxLines)
	for i := range all {
		all[i] = i + 1
	}
	wantScript(t, strings.Repeat("\n", impl.MaxLines), slices.Repeat([]string{"what"}, impl.MaxLines), first, all)
	wantScript(t, strings.Repeat("set 9\n", impl.MaxLines), slices.Repeat([]string{"no"}, impl.MaxLines), first, all)
	wantScript(t, strings.Repeat("where\n", impl.MaxLines), slices.Repeat([]string{"0/1"}, impl.MaxLines), first, nil)
	wantScript(t, strings.Repeat("where\n", impl.MaxLines-1)+"fly\n", append(slices.Repeat([]string{"0/1"}, impl.MaxLines-1), "what"), first, []int{impl.MaxLines})
	longest := "show\nset " + strings.Repeat("0", impl.MaxScript-10) + "\n"
	if len(longest) != impl.MaxScript {
		t.Error("the longest script has", len(longest), "bytes")
	}
	wantScript(t, longest, []string{"00:00:00", "no"}, first, []int{2})
	wantScript(t, strings.Repeat("x", impl.MaxScript-1)+"\n", []string{"what"}, first, []int{1})
	wantScript(t, strings.Repeat(strings.Repeat("x", 59)+"\n", impl.MaxLines), slices.Repeat([]string{"what"}, impl.MaxLines), first, all)
	for _, s := range []string{
		"show", "x", " ", "show\nshow", "\nshow", "show\n ", "\n\n ", strings.Repeat("\n", impl.MaxLines+1), strings.Repeat("where\n", impl.MaxLines+1), strings.Repeat("where\n", impl.MaxLines) + "where",
		strings.Repeat("where\n", impl.MaxLines) + "x", strings.Repeat("x", impl.MaxScript) + "\n", strings.Repeat("x", impl.MaxScript), strings.Replace(longest, "0", "00", 1), "\n" + longest, longest + "\n",
		strings.Repeat(strings.Repeat("x", 59)+"\n", impl.MaxLines) + "\n", strings.Repeat("\n", impl.MaxScript), strings.Repeat("show\n", 100000), "show\r", "show\x00",
	} {
		wantNoScript(t, s)
	}
	for _, line := range someLines {
		wantNoScript(t, line)
		wantNoScript(t, "show\n"+line)
	}
}

// madeWord returns a word that may stand behind a name.
func madeWord(random *rand.Rand, text string) string {
	numbers := []int{0, 1, 2, 3, 4, 5, 7, 8, 10, 11, 12, 13, 22, 24, 25, 71, 72, 73, 100, 143, 400, 575, 999, 1000, 1001, 1900, 2000, 2422, 10000, 99999, 100000, 100001, 999983, 999999}
	times := []string{"00:00:00", "01:30:00", "01:05:27+3/11", "12:00:00", "23:59:59", "00:00:00+1/100", "9"}
	spans := []string{"0/1", "1/2", "36/1", "7/3", "1000000/9999", "1/9973", "2/4"}
	odd := []string{"", "1000000", "01", "+1", "-1", "x", "1/0"}
	choose := func(list []string) string { return list[random.Intn(len(list))] }
	switch {
	case random.Intn(30) == 0:
		return choose(odd)
	case text == "time":
		return choose(times)
	case text == "span":
		return choose(spans)
	}
	return fmt.Sprint(numbers[random.Intn(len(numbers))])
}

// madeLine returns a line of one of the kinds. Now and then it has a word too many or too few.
func madeLine(random *rand.Rand, c console, names []string) string {
	name := names[random.Intn(len(names))]
	count := c[name].numbers
	if c[name].text != "" {
		count = 1
	}
	switch random.Intn(40) {
	case 0:
		count++
	case 1:
		count = max(0, count-1)
	}
	for range count {
		name += " " + madeWord(random, c[name].text)
	}
	return name
}

// TestMadeScripts compares made scripts with the calls that they name, as a whole and line by line.
func TestMadeScripts(t *testing.T) {
	random, c := rand.New(rand.NewSource(10)), newConsole()
	names := []string{"fly"}
	for name := range c {
		names = append(names, name)
	}
	slices.Sort(names)
	succeeded, seen := map[string]int{}, map[string]int{}
	for range 3000 {
		var lines []string
		for range random.Intn(impl.MaxLines + 1) {
			lines = append(lines, madeLine(random, c, names))
		}
		replies, after, failed := c.script(lines)
		wantScript(t, scriptOf(lines...), replies, after, failed)
		d := impl.FirstDesk()
		for i, line := range lines {
			next, reply, ok := impl.DeskLine(d, line)
			wantResult(t, fmt.Sprintf("the reply to %q on %v", line, d), reply, ok, replies[i], true)
			seen[reply]++
			if reply != "no" && reply != "what" {
				name, _, _ := strings.Cut(line, " ")
				succeeded[name]++
			}
			d = next
		}
		wantResult(t, "the desk behind all lines", d, true, after, true)
	}
	if len(succeeded) != len(c) || seen["no"] < 1000 || seen["what"] < 1000 {
		t.Error("made lines succeed as", succeeded, "and fail", seen["no"], "and", seen["what"], "times")
	}
}

// TestScriptsKeepNothing runs scripts in turn: each begins with the first desk, and what is handed back is its own.
func TestScriptsKeepNothing(t *testing.T) {
	s := scriptOf("fly", "dial 24", "turn 1 2", "clock 2 3", "set 9")
	for range 3 {
		replies, ok := impl.RunScript(s)
		wantList(t, "RunScript", replies, ok, []string{"what", "00:00:00", "12:00:00", "12:00:00", "no"}, true)
		numbers, ok := impl.FailedLines(s)
		wantList(t, "FailedLines", numbers, ok, []int{1, 5}, true)
		for i := range replies {
			replies[i] = "-"
		}
		for i := range numbers {
			numbers[i] = -1
		}
		wantScript(t, scriptOf("show", "shown 0/1", "every"), []string{"00:00:00", "0/1", "72/1"}, impl.FirstDesk(), nil)
	}
}
