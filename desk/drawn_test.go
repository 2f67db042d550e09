package desk

import (
	"fmt"
	"slices"
	"strings"
	"sync"
	"testing"

	"rewind/api"
)

// program is one that looks drawn; some are wrong.
func (d *die) program() string {
	s := "class A { field p; init(x) { this.p = x; }~get() { return [this.p]; } }~fn f(n) { if (n < 1) { return [n]; }~return [f(n - 1)]; }~var a = input();~"
	for range d.n(7) {
		s += d.one(
			"a = [a, input()];", "print(a);", "a = f(3);", "throw a;", "print(f(2)[0]);", "a = new A(a);", "print(a.get());", "a = \"x\\ny\";",
			"try { a = a[1]; } catch (e) { print(e); }", "try { var b = f(40); } catch (e) { a = fn() { return e; }; }",
			"if (true) { var a = [7]; print(a); }", "var i = 0; while (i < 9) { i = i + 1; a = [a]; }", "print(a + 1);", "print(zz);", "print(;",
		) + d.one("~", " ", "~~")
	}
	return s
}

// number is a word that may be one.
func (d *die) number() string {
	if d.n(12) == 0 {
		return d.one(wrongNumbers()...)
	}
	if d.n(12) == 0 {
		return d.one("9223372036854775807", "-9223372036854775808", "3000", "3001", "1500", "-7")
	}
	return fmt.Sprint(d.n(30) - 3)
}

// line is one of a session.
func (d *die) line() string {
	switch d.n(14) {
	case 0:
		return "program " + d.program()
	case 1:
		return d.one("inputs", "collect") + strings.Repeat(" "+d.number(), d.n(3))
	case 2, 3:
		return d.one("goto", "goto", "born", "throws") + " " + d.number()
	case 4:
		return "break " + d.one("", "-") + d.number()
	case 5:
		return "print " + d.one("a", "b", "e", "n", "x", "this", "i", "zz")
	case 6:
		return d.one("", "  ", "x", "help", "clear", "program", "inputs"+ones(101), "where where", "goto", "collect 1 2 0")
	case 7, 8, 9:
		return d.one("text", "size", "events", "where", "frames", "objects", "frames", "objects")
	}
	return d.one("step", "back", "next", "prev", "finish", "came", "continue", "reverse")
}

// session is a text that looks drawn.
func (d *die) session() []string {
	l := []string{"program " + d.program()}
	for range d.n(40) {
		l = append(l, strings.Repeat(" ", d.n(9)/7)+d.line()+strings.Repeat(" ", d.n(9)/7))
	}
	return l
}

// 11.1: any session is answered as a model answers it; the answers to its first lines are the beginning of all.
func TestAnySession(t *testing.T) {
	d := die(1)
	found := map[string]int{}
	for range 1500 {
		l := d.session()
		text := strings.Join(l, "\n") + "\n"
		got, want := Session(text), modelled(text)
		if got != want {
			t.Fatalf("%s\nis answered\n%s\nwant\n%s", text, got, want)
		}
		first := strings.Join(l[:1+d.n(len(l))], "\n") + "\n"
		if begins := Session(first); !strings.HasPrefix(got, begins) || strings.Count(begins, "\n") != strings.Count(first, "\n") {
			t.Fatalf("%s\nis answered\n%s\nand the beginning of it\n%s", text, got, begins)
		}
		for _, a := range strings.Split(got, "\n") {
			tally(found, a)
		}
	}
	for _, what := range often() {
		if found[what] < 20 {
			t.Errorf("%s: %d times: what is drawn does it too seldom", what, found[what])
		}
	}
}

// tally notes what is told in an answer.
func tally(found map[string]int, answer string) {
	if answer == help {
		return
	}
	for _, what := range often() {
		if strings.Contains(answer, what) {
			found[what]++
		}
	}
}

// often is what drawn sessions must be answered now and then.
func often() []string {
	return []string{"error 2", "error 3", "error 5", "error 7", "ok", "clear", "throws", "break", " !", "stop", "out", "thrown", "caught", "done", "dead", "none", "main", "list#", "~"}
}

// wrongLines are some that are answered by an error wherever they stand.
func wrongLines() []string {
	return []string{
		"x", "where 1", "goto", "goto -1", "goto 1501", "goto x", "born 0", "born -1", "born 9999", "born", "break 0", "break 3001", "break -9223372036854775808", "break", "throws", "throws x", "throws 1 1",
		"print zz", "print", "print a b", "step 1", "clear 1", "help 1", "program print(", "program print(zz);", "program " + strings.Repeat("1;", 600), "inputs" + ones(101), "inputs 1 x", "collect 3", "collect 0 1 -1", "collect 01",
		"text 1", "size 1", "events 1", "frames 1", "objects 1", "continue 1", "\t",
	}
}

// 11.1: by a line that is answered by an error nothing is changed: without it the others are answered the same.
func TestErrorsChangeNothing(t *testing.T) {
	base := []string{"inputs 5", "collect 1 2", sample, "break 8", "throws 1", "continue", "frames", "step", "objects", "reverse", "print a", "born 1", "next", "program print(input());~print(2);", "step", "step", "inputs 6 7", "events", "continue", sample, "break 3", "continue", "break -3", "text", "size", "reverse", "clear", "events", "step"}
	want := answers(t, base)
	for _, wrong := range wrongLines() {
		for i := range len(base) + 1 {
			got := answers(t, slices.Insert(slices.Clone(base), i, wrong))
			if !strings.HasPrefix(got[i], "error ") {
				t.Fatalf("%q behind %d lines: %q", wrong, i, got[i])
			}
			if rest := slices.Delete(got, i, i+1); !slices.Equal(rest, want) {
				t.Fatalf("%q behind %d lines: %q, want %q", wrong, i, rest, want)
			}
		}
	}
}

// 11.1: lines that only ask change nothing, either.
func TestAskingChangesNothing(t *testing.T) {
	base := []string{sample, "break 8", "throws 1", "continue", "step", "print a", "reverse", "goto 7", "finish", "came", "inputs 3", "next", "clear", "step"}
	want := answers(t, base)
	for _, ask := range []string{"", "   ", "text", "size", "events", "where", "frames", "objects", "help", "print a", "print n"} {
		for i := range len(base) + 1 {
			if got := slices.Delete(answers(t, slices.Insert(slices.Clone(base), i, ask)), i, i+1); !slices.Equal(got, want) {
				t.Fatalf("%q behind %d lines: %q, want %q", ask, i, got, want)
			}
		}
	}
}

// P1: whatever bytes a text has, each of its lines is answered by one line.
func TestAnyBytes(t *testing.T) {
	d := die(2)
	parts := []string{" ", "\n", "~", "\x00", "\xff", "\xc3", "é", "-", "0", "1", "\t", "\"", "(", ")", ";", "{", "}", "a"}
	for word := range table {
		parts = append(parts, word, word+" ")
	}
	slices.Sort(parts)
	for range 3000 {
		var b strings.Builder
		for range d.n(60) {
			b.WriteString(d.one(parts...))
			if d.n(4) == 0 {
				b.WriteByte(byte(d.n(256)))
			}
		}
		text := b.String()
		got := Session(text)
		if many := strings.Count(strings.TrimSuffix(text, "\n"), "\n") + 1; strings.Count(got, "\n") != many || !strings.HasSuffix(got, "\n") {
			t.Fatalf("%q: %q", text, got)
		}
		if want := modelled(text); got != want {
			t.Fatalf("%q: %q, want %q", text, got, want)
		}
	}
}

// P4: what a session is answered hangs on its text alone: another time, and at the same time as others.
func TestAtTheSameTime(t *testing.T) {
	var wait sync.WaitGroup
	for worker := range 8 {
		wait.Go(func() {
			d := die(worker % 3)
			for range 40 {
				text := strings.Join(d.session(), "\n")
				if first := Session(text); first != Session(text) || first != modelled(text) {
					t.Errorf("%s\nis answered in several ways", text)
				}
			}
		})
	}
	wait.Wait()
}

// The whole, 4: whenever the heap is collected, all lines are answered the same.
func TestCollectionsAreNotSeen(t *testing.T) {
	d := die(3)
	for range 150 {
		l := d.session()
		l = slices.DeleteFunc(l, func(line string) bool {
			return strings.Contains(line, "collect") || strings.Contains(line, "clear")
		})
		want := answers(t, append([]string{"collect"}, l...))
		for _, collect := range []string{"collect 1", "collect 2", "collect 0 1 2 1"} {
			if got := answers(t, append([]string{collect}, l...)); !slices.Equal(got, want) {
				t.Fatalf("%s: %q\nis answered %q, want %q", collect, l, got, want)
			}
		}
	}
}

// What is thrown, and is no error of a line, is a mistake of the program, and is not told as an error.
func TestOtherPanics(t *testing.T) {
	if got := caught(fault{api.ErrTwice}); got != api.ErrTwice {
		t.Errorf("error %d", got)
	}
	defer func() {
		if thrown := recover(); thrown != "other" {
			t.Errorf("%v is thrown", thrown)
		}
	}()
	caught("other")
}
