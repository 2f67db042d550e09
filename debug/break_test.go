package debug

import (
	"fmt"
	"slices"
	"strings"
	"testing"

	"rewind/api"
	"rewind/code"
)

// throwing throws what is caught by a function ahead of two others, and then what nobody catches. Its events: S3 S3 S2 S1 T1:1 C4 S4 O:1 S5 S1 T1:1 X:1.
const throwing = "fn g() { throw 1; }\nfn f() { g(); print(2); }\ntry { f(); }\ncatch (e) { print(e); }\ng();"

// rowsOf are where ways lead forth and back from each number of events, if these are all places.
func rowsOf(all int, places ...int) (forth, back string) {
	var f, b []string
	for n := range all + 1 {
		ahead := slices.IndexFunc(places, func(p int) bool { return p > n })
		behind := slices.IndexFunc(places, func(p int) bool { return p >= n })
		if behind < 0 {
			behind = len(places)
		}
		f, b = append(f, fmt.Sprint("!", all)), append(b, "!0")
		if ahead >= 0 {
			f[n] = fmt.Sprint(places[ahead])
		}
		if behind > 0 {
			b[n] = fmt.Sprint(places[behind-1])
		}
	}
	return strings.Join(f, " "), strings.Join(b, " ")
}

// wantPlaces: Continue and Reverse go to these places, and no others.
func wantPlaces(t *testing.T, what string, d *Debugger, events []api.Event, places ...int) {
	t.Helper()
	forth, back := rowsOf(len(events), places...)
	if got := row(t, d, events, (*Debugger).Continue); got != forth {
		t.Errorf("%s: Continue: %s, want %s", what, got, forth)
	}
	if got := row(t, d, events, (*Debugger).Reverse); got != back {
		t.Errorf("%s: Reverse: %s, want %s", what, got, back)
	}
}

// The rows that others are held against, written out.
func TestRows(t *testing.T) {
	forth, back := rowsOf(5, 1, 4)
	if forth != "1 4 4 4 !5 !5" || back != "!0 !0 1 1 1 4" {
		t.Errorf("%s; %s", forth, back)
	}
}

// 9.1: Continue and Reverse go to Stops at lines of Break, and to Throwns, if Throws; not to a Caught, or a Thrown, at such a line.
func TestBreaks(t *testing.T) {
	u := runOf(t, throwing)
	events := u.events(t)
	for _, c := range []struct {
		lines  []int
		throws bool
		places []int
	}{
		{nil, false, nil},
		{[]int{1}, false, []int{4, 10}},
		{[]int{2}, false, []int{3}},
		{[]int{3}, false, []int{1, 2}},
		{[]int{4}, false, []int{7}},
		{[]int{5}, false, []int{9}},
		{[]int{1, 3}, false, []int{1, 2, 4, 10}},
		{[]int{5, 4, 2, 1, 3}, false, []int{1, 2, 3, 4, 7, 9, 10}},
		{[]int{6, 100, api.MaxSource}, false, nil},
		{[]int{6, 2, api.MaxSource}, false, []int{3}},
		{nil, true, []int{5, 11}},
		{[]int{4}, true, []int{5, 7, 11}},
		{[]int{6}, true, []int{5, 11}},
		{[]int{1, 2, 3, 4, 5}, true, []int{1, 2, 3, 4, 5, 7, 9, 10, 11}},
	} {
		for _, every := range []int{1, 5, api.MaxEvents} {
			d := u.debugger(t, every)
			for _, line := range c.lines {
				wantError(t, fmt.Sprint("Break ", line), d.Break(line, true), api.OK)
			}
			d.Throws(c.throws)
			wantPlaces(t, fmt.Sprint("lines ", c.lines, ", Throws ", c.throws), d, events, c.places...)
		}
	}
}

// 9.1: Break on and off: on twice is on, once off is off; off where it was not on, and of other lines, changes nothing.
func TestBreakOnAndOff(t *testing.T) {
	u := runOf(t, throwing)
	events := u.events(t)
	d := u.debugger(t, 4)
	for _, c := range []struct {
		line   int
		on     bool
		places []int
	}{
		{4, false, nil}, {4, true, []int{7}}, {4, true, []int{7}}, {5, false, []int{7}}, {4, false, nil}, {4, false, nil},
		{5, true, []int{9}}, {4, true, []int{7, 9}}, {5, false, []int{7}}, {6, true, []int{7}}, {6, false, []int{7}}, {4, false, nil},
	} {
		stand(t, d, 6)
		wantError(t, fmt.Sprint("Break ", c.line), d.Break(c.line, c.on), api.OK)
		wantWhere(t, "Break", d, 6, events[5])
		wantPlaces(t, fmt.Sprint("Break ", c.line, " ", c.on), d, events, c.places...)
	}
}

// 9.1: Throws on and off, twice, too; lines of Break stay as they are.
func TestThrowsOnAndOff(t *testing.T) {
	u := runOf(t, throwing)
	events := u.events(t)
	d := u.debugger(t, 4)
	for _, on := range []bool{false, true, true, false, false, true} {
		stand(t, d, 10)
		d.Throws(on)
		wantWhere(t, "Throws", d, 10, events[9])
		if on {
			wantPlaces(t, "Throws", d, events, 5, 11)
		} else {
			wantPlaces(t, "no Throws", d, events)
		}
	}
	wantError(t, "Break 5", d.Break(5, true), api.OK)
	wantPlaces(t, "Throws and a line", d, events, 5, 9, 11)
	d.Throws(false)
	wantPlaces(t, "a line", d, events, 9)
}

// 9.1: ErrRange, unless a line is from 1 to MaxSource, on or off; nothing is changed then.
func TestWrongLines(t *testing.T) {
	u := runOf(t, throwing)
	events := u.events(t)
	d := u.debugger(t, 4)
	wantError(t, "Break 2", d.Break(2, true), api.OK)
	for line, want := range map[int]api.Errno{
		-1 << 63: api.ErrRange, -1: api.ErrRange, 0: api.ErrRange, 1: api.OK, 6: api.OK,
		api.MaxSource: api.OK, api.MaxSource + 1: api.ErrRange, 1<<63 - 1: api.ErrRange,
	} {
		stand(t, d, 8)
		wantError(t, fmt.Sprint("Break ", line, ", on"), d.Break(line, true), want)
		wantWhere(t, "Break", d, 8, events[7])
		if want != api.OK {
			wantPlaces(t, fmt.Sprint("Break ", line), d, events, 3)
		}
		wantError(t, fmt.Sprint("Break ", line, ", off"), d.Break(line, false), want)
		wantPlaces(t, fmt.Sprint("Break ", line, ", off"), d, events, 3)
	}
}

// 9.1: the last line that may be, which no program's statement has, and lines of images that are none.
func TestLinesOfImages(t *testing.T) {
	stop := func(line int) code.Instr { return code.Instr{Op: code.Stop, A: line} }
	u := run{byHand(stop(api.MaxSource), stop(api.MaxSource+1), stop(0), stop(-5), stop(1), stop(api.MaxSource), code.Instr{Op: code.Nil}, code.Instr{Op: code.Return}), tight(), nil}
	events := u.events(t)
	d := u.debugger(t, 1)
	for _, line := range []int{0, -5, api.MaxSource + 1} {
		wantError(t, fmt.Sprint("Break ", line), d.Break(line, true), api.ErrRange)
	}
	wantPlaces(t, "wrong lines", d, events)
	wantError(t, "Break", d.Break(api.MaxSource, true), api.OK)
	wantPlaces(t, "the last line", d, events, 1, 6)
	wantError(t, "Break", d.Break(1, true), api.OK)
	wantPlaces(t, "the last and the first line", d, events, 1, 5, 6)
	if got := row(t, d, events, (*Debugger).Step); got != "1 2 3 4 5 6 !7 !7" {
		t.Errorf("Step: %s", got)
	}
}

// 9.1: the last line that a program's statement may have.
func TestLastLine(t *testing.T) {
	u := runOf(t, strings.Repeat("\n", api.MaxSource-2)+"1;")
	d := u.debugger(t, 1)
	wantError(t, "Break", d.Break(api.MaxSource-1, true), api.OK)
	wantPlaces(t, "the last line", d, u.events(t), 1)
}

// 9.1: While is begun each time its value is asked: each time is a place.
func TestBreakInLoops(t *testing.T) {
	u := runOf(t, "var i = 0;\nwhile (i < 3) {\ni = i + 1; }")
	events := u.events(t)
	if got := told(events...); got != "S1 S2 S3 S2 S3 S2 S3 S2 D" {
		t.Fatalf("events: %s", got)
	}
	d := u.debugger(t, 3)
	wantError(t, "Break 2", d.Break(2, true), api.OK)
	wantPlaces(t, "line 2", d, events, 2, 4, 6, 8)
	wantError(t, "Break 3", d.Break(3, true), api.OK)
	wantPlaces(t, "lines 2 and 3", d, events, 2, 3, 4, 5, 6, 7, 8)
	wantError(t, "Break 2", d.Break(2, false), api.OK)
	wantPlaces(t, "line 3", d, events, 3, 5, 7)
}
