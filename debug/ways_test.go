package debug

import (
	"fmt"
	"strings"
	"testing"

	"rewind/api"
)

// led: a program, its events, how many functions are under way from behind none on, and where each way leads from there, from behind none on (! is ahead, where it tells false).
type led struct {
	text, events, deep                   string
	step, back, next, prev, finish, came string
}

// checkLed holds the ways of recordings of every 1, of some and of more than there are events against what is asked.
func checkLed(t *testing.T, c led) {
	t.Helper()
	u := runOf(t, c.text)
	events := u.events(t)
	if got := told(events...); got != c.events {
		t.Fatalf("%s\nits events are %s, want %s", c.text, got, c.events)
	}
	var deep []string
	for n := range len(events) + 1 {
		deep = append(deep, fmt.Sprint(len(u.gone(t, n).State().Frames)))
	}
	if got := strings.Join(deep, " "); got != c.deep {
		t.Fatalf("%s\nfunctions under way: %s, want %s", c.text, got, c.deep)
	}
	// No line, and no Throws: Continue and Reverse find none.
	end := strings.TrimSpace(strings.Repeat(fmt.Sprint("!", len(events), " "), len(events)+1))
	beginning := strings.TrimSpace(strings.Repeat("!0 ", len(events)+1))
	want := []string{c.step, c.back, c.next, c.prev, c.finish, c.came, end, beginning}
	for _, every := range []int{1, 2, 5, len(events) + 1, api.MaxEvents} {
		d := u.debugger(t, every)
		for i, w := range ways() {
			if got := row(t, d, events, w.goes); got != want[i] {
				t.Errorf("%s\nevery %d: %s: %s, want %s", c.text, every, w.name, got, want[i])
			}
		}
	}
}

// 9.1: Next and Prev go past calls; Finish and Came lead out of them.
func TestPastCalls(t *testing.T) {
	checkLed(t, led{
		text:   "fn f(x) {\nvar y = x + 1;\nreturn y; }\nprint(f(1));\nprint(f(2));",
		events: "S4 S2 S3 O:2 S5 S2 S3 O:3 D",
		deep:   "1 1 2 2 1 1 2 2 1 1",
		step:   "1 2 3 5 5 6 7 !9 !9 !9",
		back:   "!0 !0 1 2 3 3 5 6 7 7",
		next:   "1 5 3 5 5 !9 7 !9 !9 !9",
		prev:   "!0 !0 1 2 1 1 5 6 5 5",
		finish: "!9 !9 5 5 !9 !9 !9 !9 !9 !9",
		came:   "!0 !0 1 1 !0 !0 5 5 !0 !0",
	})
}

// 9.1: likewise of constructors, methods, and functions that are called within each other.
func TestPastMethods(t *testing.T) {
	checkLed(t, led{
		text:   "class A { field p;\ninit(x) { this.p = x; }\nget() { return this.p; } }\nvar a = new A(7);\nvar f = fn() { return a.get(); };\nprint(f());",
		events: "S4 S2 S5 S6 S5 S3 O:7 D",
		deep:   "1 1 2 1 1 2 3 1 1",
		step:   "1 2 3 4 5 6 !8 !8 !8",
		back:   "!0 !0 1 2 3 4 5 6 6",
		next:   "1 3 3 4 !8 !8 !8 !8 !8",
		prev:   "!0 !0 1 1 3 4 5 4 4",
		finish: "!8 !8 3 !8 !8 !8 !8 !8 !8",
		came:   "!0 !0 1 !0 !0 4 5 !0 !0",
	})
}

// 9.1: a constructor that calls the one above it, which calls a method; what is thrown there leaves all three.
func TestPastConstructors(t *testing.T) {
	checkLed(t, led{
		text: "class A { field p; init(x) {\nthis.p = x;\nthis.check(); }\ncheck() { if (this.p == 0) { throw \"zero\"; }\n} }\n" +
			"class B < A { init(x) { super.init(x);\nprint(x); } }\nnew B(1);\ntry { new B(0); } catch (e) {\nprint(e); }",
		events: "S8 S6 S2 S3 S4 S7 O:1 S9 S9 S6 S2 S3 S4 S4 T4:zero C9 S10 O:zero D",
		deep:   "1 1 2 3 3 4 2 2 1 1 2 3 3 4 4 1 1 1 1 1",
		step:   "1 2 3 4 5 6 8 8 9 10 11 12 13 14 17 17 17 !19 !19 !19",
		back:   "!0 !0 1 2 3 4 5 6 6 8 9 10 11 12 13 14 14 14 17 17",
		next:   "1 8 6 4 6 6 8 8 9 17 17 12 17 14 17 17 17 !19 !19 !19",
		prev:   "!0 !0 1 2 3 4 2 6 1 8 9 10 11 12 13 9 9 9 17 17",
		finish: "!19 !19 8 6 6 6 8 8 !19 !19 17 17 17 17 17 !19 !19 !19 !19 !19",
		came:   "!0 !0 1 2 2 4 1 1 !0 !0 9 10 10 12 12 !0 !0 !0 !0 !0",
	})
}

// 9.1: what is thrown leaves functions: behind Thrown they are not under way any more.
func TestPastThrown(t *testing.T) {
	checkLed(t, led{
		text:   throwing,
		events: "S3 S3 S2 S1 T1:1 C4 S4 O:1 S5 S1 T1:1 X:1",
		deep:   "1 1 1 2 3 1 1 1 1 1 2 1 1",
		step:   "1 2 3 4 7 7 7 9 9 10 !12 !12 !12",
		back:   "!0 !0 1 2 3 4 4 4 7 7 9 10 10",
		next:   "1 2 7 7 7 7 7 9 9 !12 !12 !12 !12",
		prev:   "!0 !0 1 2 3 2 2 2 7 7 9 9 9",
		finish: "!12 !12 !12 7 7 !12 !12 !12 !12 !12 !12 !12 !12",
		came:   "!0 !0 !0 2 3 !0 !0 !0 !0 !0 9 !0 !0",
	})
}

// 9.1: what is thrown is caught in a function: that one, and those ahead of it, are under way yet.
func TestCaughtWithin(t *testing.T) {
	checkLed(t, led{
		text:   "fn f() {\ntry { g(1); } catch (e) {\nprint(e); }\nreturn 2; }\nfn g(x) { throw x; }\nf();\nprint(3);",
		events: "S6 S2 S2 S5 T5:1 C2 S3 O:1 S4 S7 O:3 D",
		deep:   "1 1 2 2 3 2 2 2 2 2 1 1 1",
		step:   "1 2 3 4 7 7 7 9 9 10 !12 !12 !12",
		back:   "!0 !0 1 2 3 4 4 4 7 7 9 10 10",
		next:   "1 10 3 7 7 7 7 9 9 10 !12 !12 !12",
		prev:   "!0 !0 1 2 3 3 3 3 7 7 1 10 10",
		finish: "!12 !12 10 10 7 10 10 10 10 10 !12 !12 !12",
		came:   "!0 !0 1 1 3 1 1 1 1 1 !0 !0 !0",
	})
}

// 9.1: a function that calls itself: Next stays in its own call, Finish and Came lead to the one that called it.
func TestFunctionsThatCallThemselves(t *testing.T) {
	checkLed(t, led{
		text:   "fn f(n) {\nif (n == 0) { return 0; }\nvar r = f(n - 1);\nreturn r; }\nprint(f(2));",
		events: "S5 S2 S3 S2 S3 S2 S2 S4 S4 O:0 D",
		deep:   "1 1 2 2 3 3 4 4 3 2 1 1",
		step:   "1 2 3 4 5 6 7 8 9 !11 !11 !11",
		back:   "!0 !0 1 2 3 4 5 6 7 8 9 9",
		next:   "1 !11 3 9 5 8 7 8 9 !11 !11 !11",
		prev:   "!0 !0 1 2 3 4 5 6 5 3 1 1",
		finish: "!11 !11 !11 !11 9 9 8 8 9 !11 !11 !11",
		came:   "!0 !0 1 1 3 3 5 5 3 1 !0 !0",
	})
}

// 9.1: functions within functions, and one that is called when the function around it is gone.
func TestFunctionsWithin(t *testing.T) {
	checkLed(t, led{
		text:   "var f = fn(x) {\nvar g = fn(y) {\nprint(y);\nreturn y; };\ng(x);\nreturn g; };\nf(1)(2);\nprint(3);",
		events: "S1 S7 S2 S5 S3 O:1 S4 S6 S3 O:2 S4 S8 O:3 D",
		deep:   "1 1 1 2 2 3 3 3 2 2 2 2 1 1 1",
		step:   "1 2 3 4 5 7 7 8 9 11 11 12 !14 !14 !14",
		back:   "!0 !0 1 2 3 4 5 5 7 8 9 9 11 12 12",
		next:   "1 2 12 4 8 7 7 8 9 11 11 12 !14 !14 !14",
		prev:   "!0 !0 1 2 3 4 5 5 4 8 9 9 2 12 12",
		finish: "!14 !14 !14 12 12 8 8 8 12 12 12 12 !14 !14 !14",
		came:   "!0 !0 !0 2 2 4 4 4 2 2 2 2 !0 !0 !0",
	})
}

// 9.1: a program without statements has one event, its end, and no place.
func TestEmptyProgram(t *testing.T) {
	for _, text := range []string{"", "class A { m() { print(1); } }\nfn f() { print(2); }"} {
		checkLed(t, led{
			text: text, events: "D", deep: "1 1",
			step: "!1 !1", back: "!0 !0", next: "!1 !1", prev: "!0 !0", finish: "!1 !1", came: "!0 !0",
		})
	}
}

// 9.1: the last one of all events may be a place, where a run ends for want of room, or at the most events: ways lead there, and tell true; from there on there is none.
func TestLastPlace(t *testing.T) {
	for name, line := range map[string]int{"want of room, early": 1, "quiet behind a Stop": 4, "for ever": 1, "a last Stop": 5} {
		u := samples(t)[name]
		all := len(u.events(t))
		d := u.debugger(t, 100)
		wantError(t, name, d.Break(line, true), api.OK)
		for _, w := range []way{{"Step", (*Debugger).Step}, {"Next", (*Debugger).Next}, {"Continue", (*Debugger).Continue}} {
			stand(t, d, all-1)
			if !w.goes(d) || where(d) != all {
				t.Errorf("%s: %s does not lead to the last place, but behind %d events", name, w.name, where(d))
			}
			if w.goes(d) || where(d) != all {
				t.Errorf("%s: %s leads on, behind %d events", name, w.name, where(d))
			}
		}
	}
}

// 9.1: a Thrown that is the last one of all events.
func TestLastThrown(t *testing.T) {
	d := samples(t)["a last Thrown"].debugger(t, 100)
	for _, on := range []bool{true, false} {
		stand(t, d, 0)
		d.Throws(on)
		if got := d.Continue(); got != on || where(d) != api.MaxEvents {
			t.Errorf("Throws %v: Continue tells %v, behind %d events", on, got, where(d))
		}
		if d.Continue() || where(d) != api.MaxEvents {
			t.Errorf("Throws %v: Continue leads on, behind %d events", on, where(d))
		}
	}
}

// where is behind how many events one stands.
func where(d *Debugger) int {
	n, _ := d.Where()
	return n
}

// 9.1: a run without events: nothing is ahead, and nothing behind.
func TestNoEvents(t *testing.T) {
	d := samples(t)["quiet"].debugger(t, 1)
	d.Throws(true)
	for _, w := range ways() {
		if w.goes(d) {
			t.Errorf("%s tells true", w.name)
		}
		wantWhere(t, w.name, d, 0, api.Event{})
	}
	wantError(t, "Goto 0", d.Goto(0), api.OK)
	wantError(t, "Goto 1", d.Goto(1), api.ErrRange)
	wantError(t, "Born 1", d.Born(1), api.ErrMissing)
}

// 9.1: where there is no place the end is come to, even if more functions are under way there.
func TestEndWithinFunctions(t *testing.T) {
	for name, deep := range map[string]int{"for ever, deeper": 22, "want of room, deep": 14} {
		u := samples(t)[name]
		d := u.debugger(t, 40)
		all := len(u.events(t))
		// The last statement of main, from which on functions do not end.
		stand(t, d, all)
		for underWay(t, d) > 1 {
			if !d.Came() {
				t.Fatalf("%s: Came tells false where %d functions are under way", name, underWay(t, d))
			}
		}
		if d.Next() || where(d) != all || underWay(t, d) != deep {
			t.Errorf("%s: Next leads behind %d events, where %d functions are under way", name, where(d), underWay(t, d))
		}
	}
}

// underWay is how many functions are under way where a debugger stands.
func underWay(t *testing.T, d *Debugger) int {
	t.Helper()
	m, err := d.Machine()
	if err != nil {
		t.Fatalf("no machine: %v", err)
	}
	return len(m.State().Frames)
}
