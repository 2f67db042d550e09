package desk

import (
	"fmt"
	"slices"
	"strings"
	"testing"

	"rewind/api"
)

// 11.1: at first there is the empty program, with no inputs and no collections, and a debugger that stands behind none.
func TestAtFirst(t *testing.T) {
	for line, want := range map[string]string{
		"program": "1", "inputs": "1", "collect": "1", "inputs 1 2": "1", "collect 0 1 2": "1", "collect 3": "error 2",
		"text": "", "size": "1 0", "events": "done", "where": "0 none",
		"step": "1 done !", "next": "1 done !", "finish": "1 done !", "continue": "1 done !",
		"back": "0 none !", "prev": "0 none !", "came": "0 none !", "reverse": "0 none !",
		"goto 0": "0 none", "goto 1": "1 done", "goto 2": "error 2", "goto -1": "error 2",
		"born 0": "error 7", "born 1": "error 7", "break 1": "break", "break -1": "break", "break 0": "error 2", "throws 1": "throws", "throws 0": "throws",
		"print a": "error 7", "frames": "main 0: ", "objects": "", "clear": "clear",
		"program print(": "error 3", "program print(1);": "3",
	} {
		if got := last(t, line); got != want {
			t.Errorf("%s: %q, want %q", line, got, want)
		}
		// Behind a program that was wrong, and behind clear, it is as at first.
		for _, head := range [][]string{{"program print("}, {"program print(a);"}, {"clear"}, {sample, "goto 5", "clear"}, {"inputs" + ones(101)}, {"collect 3"}, {""}} {
			if got := last(t, append(head, line)...); got != want {
				t.Errorf("%.40q, %s: %q, want %q", head, line, got, want)
			}
		}
	}
}

// 11.1: program, with any number of words: how many events there are; one blank stands between words, a line feed for each ~.
func TestProgram(t *testing.T) {
	talk(t, "program", "1", "events", "done", "text", "")
	talk(t, "program ~", "1", "text", "", "program ~~~ ~", "1")
	talk(t, "program print(1);", "3", "events", "stop 1; out 1; done", "text", "print(1);~")
	talk(t, "program ~ print(1);", "3", "events", "stop 2; out 1; done")
	talk(t, "program ~~print(1);~~print(2);~", "5", "events", "stop 3; out 1; stop 5; out 2; done", "text", "print(1);~print(2);~")
	talk(t, "program print ( 1 ) ; ~ print ( 2 ) ;", "5", "events", "stop 1; out 1; stop 2; out 2; done")
	talk(t, "program print(\"a  b   c\");", "3", "events", "stop 1; out a b c; done")
	talk(t, "program var a~=~1~;print(a);", "4", "text", "var a = 1;~print(a);~", "events", "stop 1; stop 4; out 1; done")
	// A line feed can't stand in a string, so neither can ~.
	talk(t, "program print(\"~\");", "error 3", "program print(\"\\n\");", "3", "events", "stop 1; out ~; done")
	talk(t, "program while (true) { }", "1500", "goto 1500", "1500 stop 1", "goto 1501", "error 2")
	// The words of the table may be words of a program, too.
	talk(t, "program var step = 1; var text = 2; print(step + text);", "5", "events", "stop 1; stop 1; stop 1; out 3; done")
}

// 11.1: what Parse and Compile say is answered by its number, and all is as it was.
func TestWrongPrograms(t *testing.T) {
	for program, want := range map[string]int{
		"print(":                             3,
		"print(1)":                           3,
		"\xff":                               3,
		"step":                               3,
		"1 = 2;":                             1,
		"fn f(x) {} f();":                    1,
		"print(9223372036854775809);":        2,
		"print(a2345678901234567);":          4,
		strings.Repeat("1;", 600):            4,
		strings.Repeat("x", api.MaxSource+1): 4,
		tooGreat():                           4,
		"print(a);":                          5,
		"a = 1;":                             5,
		"return;":                            6,
		"print(this);":                       6,
		"print(new A());":                    7,
		"class A < B {}":                     7,
		"var a = 1; var a = 2;":              9,
		"class A < B {} class B < A {}":      11,
		"~~print(1);~~print(2":               3,
	} {
		line, is := "program "+program, fmt.Sprint("error ", want)
		talk(t, line, is, "where", "0 none", "events", "done", "text", "", "size", "1 0")
		talk(t, "inputs 7", "1", "collect 1", "1", sample, "14", "break 8", "break", "throws 1", "throws", "goto 10", "10 caught 7",
			line, is, "where", "10 caught 7", "events", sampleEvents, "size", "3 1", "frames", "main 7: a A#1",
			"continue", "12 stop 8", "reverse", "9 thrown 3 list#2", line, is, "back", "8 stop 3", "objects", "A#1: p 7, q nil",
			"text", "class A {~  field p;~  field q;~  init(x) {~    this.p = x;~  }~}~fn f(n) {~  if (n == 0) {~    throw [n];~  }~  return f(n - 1);~}~var a = new A(input());~try {~  f(1);~}~catch (e) {~  a.q = e;~}~print(a);~")
	}
}

// tooGreat is a program of more functions than an image may have.
func tooGreat() string {
	s := ""
	for i := range 250 {
		s += fmt.Sprintf("fn f%d(){}", i)
	}
	return s
}

// 11.1: inputs are there for all programs from then on, whether one is there already or not.
func TestInputs(t *testing.T) {
	two := "program print(input()); print(input());"
	talk(t, two, "5", "events", "stop 1; out nil; stop 1; out nil; done",
		"inputs 4", "5", "events", "stop 1; out 4; stop 1; out nil; done",
		"inputs -4 5 6", "5", "events", "stop 1; out -4; stop 1; out 5; done",
		"program print(input() + 1);", "3", "events", "stop 1; out -3; done",
		"inputs", "3", "events", "stop 1; thrown 1 type; dead type",
		two, "5", "events", "stop 1; out nil; stop 1; out nil; done")
	talk(t, "inputs 8 9", "1", two, "5", "events", "stop 1; out 8; stop 1; out 9; done", "clear", "clear", two, "5", "events", "stop 1; out nil; stop 1; out nil; done")
	// How many events there are may hang on them.
	talk(t, "program var n = input(); while (0 < n) { n = n - 1; }", "4", "inputs 0", "3", "inputs 1", "5", "inputs 2", "7", "inputs -1", "3", "inputs 999", "1500")
	// MaxInputs of them, and one more.
	all := "program var n = 0; var i = input(); while (0 < i) { n = n + i; i = input(); if (i == nil) { i = 0; } } print(n);"
	talk(t, "inputs"+ones(api.MaxInputs), "1", "inputs"+ones(api.MaxInputs+1), "error 2", all, fmt.Sprint(2+api.MaxInputs*4+1+4), "goto 407", "407 done", "back", "405 stop 1", "print n", "100")
}

// 11.1: collections, likewise; they are not seen.
func TestCollect(t *testing.T) {
	for _, numbers := range []string{"", " 0", " 1", " 2", " 0 1 2", " 2 2 0 1", strings.Repeat(" 2 1 0", 3000)} {
		collect := "collect" + numbers
		talk(t, sample, "14", "goto 11", "11 stop 7", collect, "14", "where", "0 none", "events", sampleEvents, "goto 11", "11 stop 7", "objects", "A#1: p nil, q nil; list#2: 0 0")
		talk(t, collect, "1", sample, "14", "goto 12", "12 stop 8", "objects", "A#1: p nil, q list#2; list#2: 0 0", "born 2", "9 thrown 3 list#2")
	}
	for _, numbers := range []string{" 3", " -1", " 0 1 2 3", " 1 -2", " 9223372036854775807", strings.Repeat(" 0", 4000) + " 4"} {
		talk(t, "collect"+numbers, "error 2", sample, "14", "goto 3", "3 stop 6", "collect"+numbers, "error 2", "where", "3 stop 6")
	}
	// That they are used is seen in the heap alone.
	wantMajors(t, 5, "collect 2", "clear", "collect 2", litter)
	wantMajors(t, 5, litter, "collect 2")
	wantMajors(t, 5, "collect 2", litter, "inputs 1")
	wantMajors(t, 5, "collect 1", litter, "collect 2")
	wantMajors(t, 5, "collect 2", litter, "collect 3", "program print(", litter)
	wantMajors(t, 0, litter)
	wantMajors(t, 0, "collect 2", litter, "collect")
	wantMajors(t, 0, "collect 2", "clear", litter)
	wantMajors(t, 0, "collect 2", litter, "collect 0", "inputs 1")
}

// wantMajors: behind these lines the heap was collected so many times by the end, whole each time.
func wantMajors(t *testing.T, want int, l ...string) {
	t.Helper()
	s := newSession()
	for _, line := range append(l, "continue") {
		s.answer(line)
	}
	m, err := s.run.debugger.Machine()
	if err != nil {
		t.Fatalf("%.60q: no machine: %v", l, err)
	}
	if _, _, minors, majors := m.Heap().Use(); minors != 0 || majors != want {
		t.Errorf("%.60q: %d Minors, %d Majors", l, minors, majors)
	}
}

// litter has 5 Stops, and leaves lists behind that nobody uses.
const litter = "program var a = [1]; a = [2]; a = [3]; a = [4]; print(a);"

// 11.1: the debugger is new, and breaks no more, behind program, inputs and collect, the same ones, too; not behind a wrong one.
func TestNewDebugger(t *testing.T) {
	set := []string{sample, "14", "break 8", "break", "throws 1", "throws", "goto 10", "10 caught 7", "reverse", "9 thrown 3 list#2", "continue", "12 stop 8"}
	for _, line := range []string{sample, "inputs", "inputs 1 2", "collect", "collect 1 0"} {
		talk(t, append(slices.Clone(set), line, "14", "where", "0 none", "continue", "14 done !", "reverse", "0 none !", "break 7", "break", "continue", "11 stop 7", "continue", "14 done !")...)
	}
	for line, is := range map[string]string{"program print(a);": "error 5", "program print(": "error 3", "inputs" + ones(101): "error 2", "collect 3": "error 2", "inputs x": "error 3", "collect -": "error 3"} {
		talk(t, append(slices.Clone(set), line, is, "where", "12 stop 8", "reverse", "9 thrown 3 list#2", "continue", "12 stop 8")...)
	}
	talk(t, append(slices.Clone(set), "program print(1);~print(2);", "5", "where", "0 none", "continue", "5 done !", "clear", "clear", "where", "0 none")...)
	// The inputs and collections stay behind program.
	talk(t, "inputs 3", "1", sample, "14", "goto 13", "13 out A#1", "objects", "A#1: p 3, q list#2; list#2: 0 0", "inputs 4", "14", "goto 4", "4 stop 6", "objects", "A#1: p 4, q nil")
}

// 11.1: text is Text of the program: in several lines, with ~ for line feeds.
func TestText(t *testing.T) {
	for program, want := range map[string]string{
		"":                                   "",
		"print(1+2);":                        "print(1 + 2);~",
		"1;2;":                               "1;~2;~",
		"if(true){print(1);}else{}":          "if (true) {~  print(1);~}~else {~}~",
		"class A{field p;m(){return 1;}}":    "class A {~  field p;~  m() {~    return 1;~  }~}~",
		"var f=fn(x){return x;};":            "var f = fn(x) {~  return x;~};~",
		"print(\"a\\nb\\\"\\\\\");":          "print(\"a\\nb\\\"\\\\\");~",
		"try{throw 007;}catch(e){print(e);}": "try {~  throw 7;~}~catch (e) {~  print(e);~}~",
		"\n\n1 ;":                            "1;~",
	} {
		line := "program " + strings.ReplaceAll(program, "\n", "~")
		if got := last(t, line, "text"); got != want {
			t.Errorf("%q: %q, want %q", program, got, want)
		}
		// What is told is that program again.
		if got := last(t, "program "+want, "text"); got != want {
			t.Errorf("%q, again: %q, want %q", program, got, want)
		}
		if got := last(t, line, "inputs 1", "step", "text"); got != want {
			t.Errorf("%q, on the way: %q, want %q", program, got, want)
		}
	}
}

// 11.1: size is how many functions and classes the image has.
func TestSize(t *testing.T) {
	for program, want := range map[string]string{
		"":                           "1 0",
		"print(1);":                  "1 0",
		"fn f() {}":                  "2 0",
		"class A {}":                 "1 1",
		"class A {} class B < A {}":  "1 2",
		"class A { m() {} n() {} }":  "3 1",
		"var f = fn() { fn() {}; };": "3 0",
		"class A { m() { fn() {}; } } fn f() {} fn g() {} class B {}": "5 2",
	} {
		if got := last(t, "program "+program, "size"); got != want {
			t.Errorf("%q: %q, want %q", program, got, want)
		}
	}
}

// 11.1: clear: all is as at first, whatever was ahead.
func TestClear(t *testing.T) {
	rest := []string{"where", "text", "size", "events", "step", "back", "frames", "objects", "print a", "born 1", "goto 3", "continue", "reverse", "program print(input());", "events", "continue", sample, "continue", "goto 12", "objects", "inputs 2", "events"}
	want := answers(t, rest)
	for _, head := range [][]string{nil, {sample}, {"inputs 1 2", sample, "goto 9", "break 1", "throws 1"}, {"collect 1", "program print(", "x"}, {"program while (true) { }", "goto 1500"}, {"clear"}, {sample, "clear", sample}} {
		got := answers(t, slices.Concat(head, []string{"clear"}, rest))
		if got[len(head)] != "clear" || !slices.Equal(got[len(head)+1:], want) {
			t.Errorf("%.60q, clear: %q, want %q", head, got[len(head):], want)
		}
	}
}

// 11.1, 10.1: the room is that of chapter 10; a program that has too little ends there, and that is no error.
func TestRoom(t *testing.T) {
	greedy := "program var l = nil;~while (true) { l = " + lists("l", 3) + "; }"
	l := answers(t, []string{greedy, "events", "goto 1499", "continue", "size"})
	var many int
	fmt.Sscan(l[0], &many)
	if many < 100 || many > 1000 || !strings.HasSuffix(l[1], "; stop 2") || strings.Count(l[1], "; ") != many-1 || l[2] != "error 2" || l[3] != fmt.Sprint(many, " stop 2 !") || l[4] != "1 0" {
		t.Errorf("%.300q", l)
	}
	// Here there is less and less room, two cells at a time; in another nursery it would end earlier, or later.
	text := "program var l = nil; var i = 0;~while (i < 91) { i = i + 1;~l = " + lists("l", 3) + "; }~while (true) { l = [l]; }~"
	if got, want := Session(text), modelled(text); got != want || got == "1500\n" {
		t.Errorf("%q events, want %q", got, want)
	}
	// The run is not over yet behind its last event.
	if got := last(t, greedy, "continue", "frames"); !strings.HasPrefix(got, "main 2: l list#") {
		t.Errorf("frames at the end: %.60q", got)
	}
}

// lists are lists within lists, so deep, of 8 parts each; the innermost ones begin with a value.
func lists(first string, deep int) string {
	if deep == 0 {
		return first
	}
	return "[" + lists(first, deep-1) + strings.Repeat(","+lists("1", deep-1), 7) + "]"
}
