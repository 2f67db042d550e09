package debug

import (
	"fmt"
	"strings"
	"testing"

	"rewind/api"
	"rewind/vm"
)

// missing stands for ErrMissing in what is printed.
const missing = "-"

// printed is what Print tells of a name; it must be a variable, or ErrMissing and nothing beside it.
func printed(t *testing.T, d *Debugger, name string) string {
	t.Helper()
	s, err := d.Print(name)
	if err == nil {
		return s
	}
	wantError(t, fmt.Sprintf("Print %q", name), err, api.ErrMissing)
	if s != "" {
		t.Errorf("Print %q: %q beside an error", name, s)
	}
	return missing
}

// shown: a program, its events, and what Print tells of names from behind none on.
type shown struct {
	text, events string
	names        map[string]string
}

// checkShown holds what is printed of recordings of every 1, of some and of more than there are events against what is asked, whenever the heap is collected.
func checkShown(t *testing.T, c shown) {
	t.Helper()
	for _, room := range []vm.Config{tight(), tight(1), tight(2, 0)} {
		u := run{compiled(t, c.text), room, []int{7}}
		events := u.events(t)
		if got := told(events...); got != c.events {
			t.Fatalf("%s\nits events are %s, want %s", c.text, got, c.events)
		}
		for _, every := range []int{1, 3, api.MaxEvents} {
			d := u.debugger(t, every)
			for name, want := range c.names {
				var l []string
				for n := range len(events) + 1 {
					stand(t, d, n)
					l = append(l, printed(t, d, name))
					wantWhere(t, "Print", d, n, last(events, n))
				}
				if got := strings.Join(l, " "); got != want {
					t.Errorf("%s\nin %v, every %d: %q is %s, want %s", c.text, room, every, name, got, want)
				}
			}
		}
	}
}

// 9.1: a variable is there behind its statement's value; of two of one name the last one is told; at the end, where it is over, and of names that are none there is nothing.
func TestPrintVariables(t *testing.T) {
	checkShown(t, shown{
		text:   "var a = 1;\nif (true) { var a = 2;\nvar b = a;\nprint(a); }\na = [a];\nprint(a);",
		events: "S1 S2 S2 S3 S4 O:2 S5 S6 O:list#1 D",
		names: map[string]string{
			"a": "- - 1 1 2 2 2 1 list#1 list#1 -",
			"b": "- - - - - 2 2 - - - -",
			"c": "- - - - - - - - - - -",
			"":  "- - - - - - - - - - -",
			"A": "- - - - - - - - - - -", "aa": "- - - - - - - - - - -", "a ": "- - - - - - - - - - -",
			"main": "- - - - - - - - - - -", "this": "- - - - - - - - - - -", "var": "- - - - - - - - - - -", "1": "- - - - - - - - - - -",
			"\x00\xff": "- - - - - - - - - - -",
		},
	})
}

// 9.1: of the last function alone: parameters from the call on, its own variables, not those of who called it, a method's this.
func TestPrintInFunctions(t *testing.T) {
	checkShown(t, shown{
		text:   "class A { field p;\ninit(x) { this.p = x; }\nget(y) { var x = y; return x; } }\nfn f(x) { var z = x + 1; return z; }\nvar x = 5;\nvar a = new A([x]);\na.get(\"s\");\nprint(f(8));",
		events: "S5 S6 S2 S7 S3 S3 S8 S4 S4 O:9 D",
		names: map[string]string{
			"x":    "- - 5 list#1 5 - s 5 8 8 5 -",
			"a":    "- - - - A#2 - - A#2 - - A#2 -",
			"y":    "- - - - - s s - - - - -",
			"z":    "- - - - - - - - - 9 - -",
			"this": "- - - A#2 - A#2 A#2 - - - - -",
			"p":    "- - - - - - - - - - - -",
		},
	})
}

// 9.1: Catch's name from the event behind Caught on, as the last one of its name; behind Thrown what lies within the Try is left; behind a Thrown that nobody catches there is nothing.
func TestPrintCaught(t *testing.T) {
	checkShown(t, shown{
		text:   "var e = 1;\ntry { var b = 2; throw [e]; }\ncatch (e) { print(b());\n}\nfn b() { return 3; }\nthrow e;",
		events: "S1 S2 S2 S2 T2:list#1 C3 S3 S5 O:3 S6 T6:1 X:1",
		names: map[string]string{
			"e": "- - 1 1 1 1 1 list#1 - list#1 1 - -",
			"b": "- - - - 2 - - - - - - - -",
		},
	})
}

// 9.1: functions within functions tell what is their own; what functions share is as it is at that place.
func TestPrintWithin(t *testing.T) {
	checkShown(t, shown{
		text:   "var n = 0;\nvar f = fn(k) { n = n + k; return n; };\nf(2);\nf(3);\nprint(n);",
		events: "S1 S2 S3 S2 S2 S4 S2 S2 S5 O:5 D",
		names: map[string]string{
			"n": "- - 0 0 - - 2 - - 5 5 -",
			"k": "- - - - 2 2 - 3 3 - - -",
			"f": "- - - fn#1 - - fn#1 - - fn#1 fn#1 -",
		},
	})
}

// 9.1: values of all kinds are told as Show tells them; a text may be empty, which is no error.
func TestPrintKinds(t *testing.T) {
	u := run{compiled(t, "class A {}\nvar a = nil; var b = true; var c = -9223372036854775808; var d = \"\"; var e = \"x\\n\\\"\"; var f = []; var g = fn() {}; var h = new A(); var i = input();\n1;"), tight(1), []int{7}}
	d := u.debugger(t, 2)
	stand(t, d, len(u.events(t))-1)
	for name, want := range map[string]string{"a": "nil", "b": "true", "c": "-9223372036854775808", "d": "", "e": "x\n\"", "f": "list#1", "g": "fn#2", "h": "A#3", "i": "7"} {
		if got, err := d.Print(name); got != want || err != nil {
			t.Errorf("%s is %q, error %v, want %q", name, got, err, want)
		}
	}
}

// 9.1: at the most events a machine is over: there is nothing; ahead of that, and where a run ends for want of room, which the machine does not know yet, there is.
func TestPrintAtTheEnd(t *testing.T) {
	for name, want := range map[string]string{"a last Stop": "748 -", "a last Done": "747 -", "a last Thrown": "748 -", "a last Dead": "- -"} {
		u := samples(t)[name]
		d := u.debugger(t, 90)
		stand(t, d, api.MaxEvents-1)
		got := printed(t, d, "i")
		stand(t, d, api.MaxEvents)
		if got += " " + printed(t, d, "i"); got != want {
			t.Errorf("%s: i is %s, want %s", name, got, want)
		}
	}
	u := samples(t)["want of room"]
	d := u.debugger(t, 9)
	all := len(u.events(t))
	stand(t, d, all)
	if got, want := printed(t, d, "l"), fmt.Sprint("list#", u.gone(t, all).Heap().Last()); got != want {
		t.Errorf("want of room: l is %s, want %s", got, want)
	}
}
