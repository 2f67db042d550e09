package inspect

import (
	"testing"

	"rewind/api"
	"rewind/code"
	"rewind/vm"
)

// 8.1, 8.2: ErrMissing of no machine, without a place, and nothing beside it.
func TestNoMachine(t *testing.T) {
	if l, err := Frames(nil); l != nil || api.Tell(err) != api.ErrMissing || place(err) != -1 {
		t.Errorf("Frames: %v, error %d at %d", l, api.Tell(err), place(err))
	}
	if l, err := Objects(nil); l != nil || api.Tell(err) != api.ErrMissing || place(err) != -1 {
		t.Errorf("Objects: %v, error %d at %d", l, api.Tell(err), place(err))
	}
}

// wantNothing: a machine has no functions and no objects, and that is no error.
func wantNothing(t *testing.T, what string, x *vm.Machine) {
	t.Helper()
	if l, err := Frames(x); len(l) != 0 || err != nil {
		t.Errorf("%s: Frames: %v, error %v", what, l, err)
	}
	if l, err := Objects(x); len(l) != 0 || err != nil {
		t.Errorf("%s: Objects: %v, error %v", what, l, err)
	}
}

// wantSomething: a machine has functions and objects.
func wantSomething(t *testing.T, what string, x *vm.Machine) {
	t.Helper()
	if framesOf(t, x) == "" || objectsOf(t, x) == "" {
		t.Errorf("%s: frames %s, objects %s", what, framesOf(t, x), objectsOf(t, x))
	}
}

// 8.1, 8.2: of a machine that is over there is nothing: by Done, by Dead, by its last event, and for want of room; ahead of that there is.
func TestOver(t *testing.T) {
	grows := "var l = [0];\nwhile (true) { l = [l, 1, 2, 3]; }"
	for what, c := range map[string]struct {
		text  string
		room  vm.Config
		count int
		full  bool
	}{
		"Done":              {"var a = [1];\nprint(a);", tight(), 4, false},
		"Dead":              {"var a = [1];\ntry { throw a; } catch (e) {}\nprint(a);\na.b = 1;", tight(1), 0, false},
		"the last event":    {"var a = [1];\nwhile (true) { print(a); }", tight(), api.MaxEvents, false},
		"a last Done":       {"var a = [1];\nvar i = 0;\nwhile (i < 747) { i = i + 1; }\nprint(a);", tight(), api.MaxEvents, false},
		"want of room":      {grows, vm.Config{Nursery: 40, Old: 400, Collect: []int{0, 1}}, 0, true},
		"no room for a box": {"var a = [1];\nvar b = [2]; var f = fn() { return b; };", vm.Config{Nursery: 4, Old: 2}, 0, true},
	} {
		x := ended(t, compiled(t, c.text), c.room)
		if x.Full() != c.full || c.count > 0 && x.Count() != c.count {
			t.Errorf("%s: behind %d events, full %v", what, x.Count(), x.Full())
		}
		wantNothing(t, what, x)
		wantNothing(t, what, x.Copy())
		y := started(t, compiled(t, c.text), c.room)
		for range x.Count() {
			y.Next()
		}
		// For want of room a machine is over when its next event is asked for.
		if c.full {
			wantSomething(t, what, y)
			y.Next()
		}
		wantNothing(t, what, y)
		wantNothing(t, what+", asked on", x)
	}
	wantNothing(t, "the zero value", &vm.Machine{})
}

// 8.1: behind the event that is the last one but one of those that may be, a machine is not over.
func TestAheadOfTheLast(t *testing.T) {
	x := started(t, compiled(t, "var a = [1];\nwhile (true) { print(a); }"), tight())
	for range api.MaxEvents - 1 {
		x.Next()
	}
	if got := framesOf(t, x) + " | " + objectsOf(t, x); got != "main 2: a list#1 | list#1: 0 1" {
		t.Errorf("behind %d events: %s", x.Count(), got)
	}
	x.Next()
	wantNothing(t, "the last event", x)
}

// 8.1: a machine behind no event has the program's own function, of line 0, without variables, and no objects, whatever its program is.
func TestBehindNoEvent(t *testing.T) {
	for _, text := range []string{"", "print(1);", "var a = [1];", "class A { field p; }\nfn f() {}\nvar g = fn() { return 1; };"} {
		x := started(t, compiled(t, text), vm.Config{Nursery: 1, Old: 1})
		if got := framesOf(t, x); got != "main 0: " || objectsOf(t, x) != "" {
			t.Errorf("%q: %s; %s", text, got, objectsOf(t, x))
		}
	}
	x := started(t, compiled(t, ""), tight())
	x.Next()
	wantNothing(t, "an empty program behind Done", x)
}

// 8.1: a run that comes to its end without an event, for want of room.
func TestNoEvents(t *testing.T) {
	m := &code.Image{Funcs: []code.Func{{Name: "main", Code: []code.Instr{{Op: code.Jump}}}}}
	x := started(t, m, tight())
	if got := framesOf(t, x); got != "main 0: " {
		t.Errorf("behind no event: %s", got)
	}
	if _, ok := x.Next(); ok || !x.Full() {
		t.Errorf("it is not over")
	}
	wantNothing(t, "over without an event", x)
}
