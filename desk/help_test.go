package desk

import (
	"fmt"
	"slices"
	"strings"
	"testing"
)

// talk is a session as it must be: lines, each with its answer behind it. The same lines are also laid without the line feed at their end, and each beginning of them alone: the answers to the first lines are the beginning of all.
func talk(t *testing.T, linesAndAnswers ...string) {
	t.Helper()
	text, want := "", ""
	for pair := range slices.Chunk(linesAndAnswers, 2) {
		text += pair[0] + "\n"
		want += pair[1] + "\n"
		if got := Session(text); got != want {
			t.Fatalf("%s\nis answered\n%s\nwant\n%s", cut(text), cut(got), cut(want))
		}
	}
	// An empty line at the end is one only with its line feed.
	if strings.HasSuffix(text, "\n\n") || text == "\n" {
		return
	}
	if got := Session(strings.TrimSuffix(text, "\n")); got != want {
		t.Errorf("%s\nwithout a line feed at its end is answered\n%s\nwant\n%s", cut(text), cut(got), cut(want))
	}
}

// cut is a text that is not too long to be shown: its end.
func cut(s string) string {
	if len(s) > 2000 {
		return ".." + s[len(s)-2000:]
	}
	return s
}

// answers are those to lines, one by one.
func answers(t *testing.T, l []string) []string {
	t.Helper()
	out := Session(strings.Join(l, "\n") + "\n")
	if !strings.HasSuffix(out, "\n") {
		t.Fatalf("%.300q: there is no line feed at the end", l)
	}
	a := strings.Split(strings.TrimSuffix(out, "\n"), "\n")
	if len(a) != len(l) {
		t.Fatalf("%.300q: %d answers to %d lines", l, len(a), len(l))
	}
	return a
}

// last is the answer to the last one of lines.
func last(t *testing.T, l ...string) string {
	t.Helper()
	a := answers(t, l)
	return a[len(a)-1]
}

// ones are so many words to stand behind another one.
func ones(many int) string { return strings.Repeat(" 1", many) }

// table has all words, each with how many stand behind it (-1: any number).
var table = map[string]int{
	"program": -1, "inputs": -1, "collect": -1,
	"text": 0, "size": 0, "events": 0, "where": 0,
	"step": 0, "back": 0, "next": 0, "prev": 0, "finish": 0, "came": 0, "continue": 0, "reverse": 0,
	"goto": 1, "born": 1, "break": 1, "throws": 1, "print": 1,
	"frames": 0, "objects": 0, "clear": 0, "help": 0,
}

// numbered are the words behind which numbers stand.
var numbered = []string{"goto", "born", "break", "throws", "inputs", "collect"}

// sample makes objects of all kinds, throws, catches, and calls. Its lines, and events:
//
//	1 class A { field p; field q; init(x) { this.p = x; } }
//	2 fn f(n) {
//	3 if (n == 0) { throw [n]; }
//	4 return f(n - 1); }
//	5 var a = new A(input());
//	6 try { f(1); }
//	7 catch (e) { a.q = e; }
//	8 print(a);
//
// 1 stop 5, 2 stop 1, 3 stop 6, 4 stop 6, 5 stop 3, 6 stop 4, 7 stop 3, 8 stop 3, 9 thrown 3 list#2, 10 caught 7, 11 stop 7, 12 stop 8, 13 out A#1, 14 done
const sample = "program class A { field p; field q; init(x) { this.p = x; } }~fn f(n) {~if (n == 0) { throw [n]; }~return f(n - 1); }~" +
	"var a = new A(input());~try { f(1); }~catch (e) { a.q = e; }~print(a);"

const sampleEvents = "stop 5; stop 1; stop 6; stop 6; stop 3; stop 4; stop 3; stop 3; thrown 3 list#2; caught 7; stop 7; stop 8; out A#1; done"

// at goes behind so many events, one line.
func at(n int) string { return fmt.Sprint("goto ", n) }

// die: numbers that look drawn, the same each time.
type die uint64

func (d *die) n(below int) int {
	*d = *d*6364136223846793005 + 1442695040888963407
	return int(uint64(*d>>33) % uint64(below))
}

func (d *die) one(l ...string) string { return l[d.n(len(l))] }
