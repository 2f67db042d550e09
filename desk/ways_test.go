package desk

import (
	"fmt"
	"slices"
	"strings"
	"testing"

	"rewind/api"
)

// 11.1: an event is told by its kind, its Line behind a blank, unless it is 0, and its Text behind a blank, unless it is empty.
func TestToldEvent(t *testing.T) {
	for kind, word := range map[int]string{0: "none", api.Stop: "stop", api.Out: "out", api.Thrown: "thrown", api.Caught: "caught", api.Done: "done", api.Dead: "dead"} {
		for _, line := range []int{0, 1, 3000} {
			for _, text := range []string{"", "a", " ", "a b", "0"} {
				want := word
				if line > 0 {
					want += fmt.Sprint(" ", line)
				}
				if text != "" {
					want += " " + text
				}
				if got := toldEvent(api.Event{Kind: kind, Line: line, Text: text}); got != want {
					t.Errorf("%d %d %q: %q, want %q", kind, line, text, got, want)
				}
			}
		}
	}
}

// 11.1: events of each kind, with and without a line, with and without a text, texts with line feeds; with a semicolon and a blank between.
func TestEvents(t *testing.T) {
	for program, want := range map[string]string{
		"":                                     "done",
		"1;":                                   "stop 1; done",
		"print(1);":                            "stop 1; out 1; done",
		"print(\"\");":                         "stop 1; out; done",
		"print(\" \");":                        "stop 1; out  ; done",
		"print(\"a b; c\");":                   "stop 1; out a b; c; done",
		"print(\"a\\nb\\n\");":                 "stop 1; out a~b~; done",
		"print(\"\\n\");~print([]);":           "stop 1; out ~; stop 2; out list#1; done",
		"throw 1;":                             "stop 1; thrown 1 1; dead 1",
		"~~throw \"\";":                        "stop 3; thrown 3; dead",
		"throw \"x\\ny\";":                     "stop 1; thrown 1 x~y; dead x~y",
		"print(1 / 0);":                        "stop 1; thrown 1 zero; dead zero",
		"try { throw \"\\n\"; }~catch (e) { }": "stop 1; stop 1; thrown 1 ~; caught 2; done",
		"try { throw nil; }~catch (e) { throw [e]; }": "stop 1; stop 1; thrown 1 nil; caught 2; stop 2; thrown 2 list#1; dead list#1",
	} {
		if got := last(t, "program "+program, "events"); got != want {
			t.Errorf("%q: %q, want %q", program, got, want)
		}
		// Where tells the same of each, behind so many events.
		l := []string{"program " + program, fmt.Sprint(len(split(want)))}
		for i, e := range split(want) {
			l = append(l, at(i+1), fmt.Sprint(i+1, " ", e), "where", fmt.Sprint(i+1, " ", e))
		}
		talk(t, append(l, "goto 0", "0 none", "where", "0 none", "events", want)...)
	}
	all := strings.TrimSuffix(strings.Repeat("stop 1; ", 1500), "; ")
	talk(t, "program while (true) { }", "1500", "events", all, "goto 700", "700 stop 1", "events", all)
	talk(t, sample, "14", "events", sampleEvents, "goto 14", "14 done", "events", sampleEvents)
}

// split are the events of a line, of which one has a semicolon in its text.
func split(events string) []string {
	l := strings.Split(strings.ReplaceAll(events, "b; c", "b|c"), "; ")
	for i := range l {
		l[i] = strings.ReplaceAll(l[i], "b|c", "b; c")
	}
	return l
}

// wantRow: from behind each number of events of the sample a line leads there; ! is ahead, where it finds no place.
func wantRow(t *testing.T, head []string, line, row string) {
	t.Helper()
	events := append([]string{"none"}, strings.Split(sampleEvents, "; ")...)
	for n, is := range strings.Fields(row) {
		var to int
		fmt.Sscan(strings.TrimPrefix(is, "!"), &to)
		want := fmt.Sprint(to, " ", events[to])
		l := append(slices.Clone(head), at(n), fmt.Sprint(n, " ", events[n]), line)
		if strings.HasPrefix(is, "!") {
			talk(t, append(l, want+" !", "where", want)...)
		} else {
			talk(t, append(l, want, "where", want)...)
		}
	}
}

// 11.1: each of the eight ways, from everywhere: where it finds a place, and where it finds none.
func TestWays(t *testing.T) {
	head := []string{sample, "14"}
	wantRow(t, head, "step", "1 2 3 4 5 6 7 8 11 11 11 12 !14 !14 !14")
	wantRow(t, head, "back", "!0 !0 1 2 3 4 5 6 7 8 8 8 11 12 12")
	wantRow(t, head, "next", "1 3 3 4 11 6 11 8 11 11 11 12 !14 !14 !14")
	wantRow(t, head, "prev", "!0 !0 1 1 3 4 5 6 7 4 4 4 11 12 12")
	wantRow(t, head, "finish", "!14 !14 3 !14 !14 11 11 11 11 !14 !14 !14 !14 !14 !14")
	wantRow(t, head, "came", "!0 !0 1 !0 !0 4 4 6 6 !0 !0 !0 !0 !0 !0")
	wantRow(t, head, "continue", strings.TrimSpace(strings.Repeat("!14 ", 15)))
	wantRow(t, head, "reverse", strings.TrimSpace(strings.Repeat("!0 ", 15)))
}

// 11.1: break of N, and of -N, no more; throws, if N is not 0.
func TestBreakAndThrows(t *testing.T) {
	none := strings.TrimSpace(strings.Repeat("!14 ", 15))
	for _, c := range []struct {
		lines     []string
		continues string
		reverses  string
	}{
		{[]string{"break 3"}, "5 5 5 5 5 7 7 8 !14 !14 !14 !14 !14 !14 !14", "!0 !0 !0 !0 !0 !0 5 5 7 8 8 8 8 8 8"},
		{[]string{"break 3", "break 3"}, "5 5 5 5 5 7 7 8 !14 !14 !14 !14 !14 !14 !14", "!0 !0 !0 !0 !0 !0 5 5 7 8 8 8 8 8 8"},
		{[]string{"break 3", "break -3"}, none, ""},
		{[]string{"break 3", "break 3", "break -3"}, none, ""},
		{[]string{"break -3", "break 3", "break -4"}, "5 5 5 5 5 7 7 8 !14 !14 !14 !14 !14 !14 !14", ""},
		{[]string{"break 8", "break 5"}, "1 12 12 12 12 12 12 12 12 12 12 12 !14 !14 !14", "!0 !0 1 1 1 1 1 1 1 1 1 1 1 12 12"},
		{[]string{"break 8", "break 5", "break -8"}, "1 !14 !14 !14 !14 !14 !14 !14 !14 !14 !14 !14 !14 !14 !14", ""},
		{[]string{"break 2", "break 9", "break 3000"}, none, ""},
		{[]string{"throws 1"}, "9 9 9 9 9 9 9 9 9 !14 !14 !14 !14 !14 !14", "!0 !0 !0 !0 !0 !0 !0 !0 !0 !0 9 9 9 9 9"},
		{[]string{"throws -1"}, "9 9 9 9 9 9 9 9 9 !14 !14 !14 !14 !14 !14", ""},
		{[]string{"throws 9223372036854775807"}, "9 9 9 9 9 9 9 9 9 !14 !14 !14 !14 !14 !14", ""},
		{[]string{"throws -9223372036854775808"}, "9 9 9 9 9 9 9 9 9 !14 !14 !14 !14 !14 !14", ""},
		{[]string{"throws 0"}, none, ""},
		{[]string{"throws 1", "throws 0"}, none, ""},
		{[]string{"throws 0", "throws 2", "throws 1"}, "9 9 9 9 9 9 9 9 9 !14 !14 !14 !14 !14 !14", ""},
		{[]string{"throws 1", "break 7"}, "9 9 9 9 9 9 9 9 9 11 11 !14 !14 !14 !14", "!0 !0 !0 !0 !0 !0 !0 !0 !0 !0 9 9 11 11 11"},
		{[]string{"throws 1", "break 7", "throws 0"}, "11 11 11 11 11 11 11 11 11 11 11 !14 !14 !14 !14", ""},
		{[]string{"throws 1", "break 7", "break -7"}, "9 9 9 9 9 9 9 9 9 !14 !14 !14 !14 !14 !14", ""},
	} {
		head := []string{sample, "14"}
		for _, line := range c.lines {
			head = append(head, line, strings.Fields(line)[0])
		}
		wantRow(t, head, "continue", c.continues)
		wantRow(t, head, "reverse", c.reverses)
	}
}

// 11.1: break of numbers that are no lines: what Break says; -2^63 counts as -MaxText. It stands where it stood, and breaks where it did.
func TestBreakNoLine(t *testing.T) {
	for _, n := range []string{"0", "3001", "-3001", "20000", "-20000", "9223372036854775807", "-9223372036854775807", "-9223372036854775808"} {
		talk(t, "break "+n, "error 2", sample, "14", "break 7", "break", "goto 9", "9 thrown 3 list#2", "break "+n, "error 2", "where", "9 thrown 3 list#2", "continue", "11 stop 7", "continue", "14 done !")
	}
	for _, n := range []string{"1", "3000", "-1", "-3000", "2999"} {
		talk(t, "break "+n, "break", sample, "14", "break "+n, "break", "where", "0 none")
	}
}

// 11.1: goto of numbers that there are, and are not.
func TestGoto(t *testing.T) {
	events := append([]string{"none"}, strings.Split(sampleEvents, "; ")...)
	l := []string{sample, "14"}
	for n := range events {
		l = append(l, at(n), fmt.Sprint(n, " ", events[n]))
		for _, wrong := range []string{"-1", "15", "1500", "1501", "9223372036854775807", "-9223372036854775808"} {
			l = append(l, "goto "+wrong, "error 2")
		}
		l = append(l, "where", fmt.Sprint(n, " ", events[n]))
	}
	talk(t, l...)
}

// 11.1: born of identities that there are, and are not.
func TestBorn(t *testing.T) {
	for _, from := range []string{"0 none", "5 stop 3", "14 done"} {
		talk(t, sample, "14", "goto "+strings.Fields(from)[0], from,
			"born 0", "error 7", "born -1", "error 7", "born 3", "error 7", "born 9223372036854775807", "error 7", "born -9223372036854775808", "error 7", "where", from,
			"born 2", "9 thrown 3 list#2", "where", "9 thrown 3 list#2", "born 1", "2 stop 1", "where", "2 stop 1", "step", "3 stop 6", "born 1", "2 stop 1")
	}
}

// The whole, 6: whoever goes forth comes back, by lines, too.
func TestForthAndBack(t *testing.T) {
	l := []string{sample}
	for range 10 {
		l = append(l, "step")
	}
	for range 10 {
		l = append(l, "back")
	}
	want := []string{"14", "1 stop 5", "2 stop 1", "3 stop 6", "4 stop 6", "5 stop 3", "6 stop 4", "7 stop 3", "8 stop 3", "11 stop 7", "12 stop 8",
		"11 stop 7", "8 stop 3", "7 stop 3", "6 stop 4", "5 stop 3", "4 stop 6", "3 stop 6", "2 stop 1", "1 stop 5", "0 none !"}
	if got := answers(t, l); !slices.Equal(got, want) {
		t.Errorf("%q, want %q", got, want)
	}
}

// DOC.md's example 9, by lines.
func TestExample(t *testing.T) {
	talk(t, "program print(1);~print(2);", "5", "step", "1 stop 1", "step", "3 stop 2")
}
