package debug

import (
	"fmt"
	"testing"

	"rewind/api"
	"rewind/code"
	"rewind/vm"
)

// bearing makes list#1, fn#2, A#3, list#4, B#5, list#6 and list#7; shared variables lie in boxes, which have no identity.
const bearing = `class A {}
class B { field p; init(x) { this.p = [x]; } }
var a = [1];
var f = fn() { a = 2; return []; };
print([a, new A()]);
new B(3);
print(f());
`

// 9.1: Born stands at the least number of events behind which an identity was given: of lists, functions, and instances, behind whatever event.
func TestBorn(t *testing.T) {
	u := runOf(t, bearing)
	events := u.events(t)
	if got := told(events...); got != "S3 S4 S5 O:list#4 S6 S2 S7 S4 S4 O:list#7 D" {
		t.Fatalf("events: %s", got)
	}
	for _, every := range []int{1, 3, api.MaxEvents} {
		d := u.debugger(t, every)
		for id, want := range map[int]int{1: 2, 2: 3, 3: 4, 4: 4, 5: 6, 6: 7, 7: 10} {
			// From behind none, behind all, and where it was already.
			for _, from := range []int{0, len(events), want} {
				stand(t, d, from)
				wantError(t, fmt.Sprint("Born ", id), d.Born(id), api.OK)
				wantWhere(t, fmt.Sprint("Born ", id), d, want, events[want-1])
			}
		}
		wantNotBorn(t, d, events, -1<<63, -1, 0, 8, 9, 1<<63-1)
	}
}

// wantNotBorn: ErrMissing of these identities, and it stands where it stood.
func wantNotBorn(t *testing.T, d *Debugger, events []api.Event, ids ...int) {
	t.Helper()
	for _, id := range ids {
		for _, from := range []int{0, len(events) / 2, len(events)} {
			stand(t, d, from)
			wantError(t, fmt.Sprint("Born ", id), d.Born(id), api.ErrMissing)
			wantWhere(t, fmt.Sprint("Born ", id), d, from, last(events, from))
		}
	}
}

// 9.1: objects that are gone by the end are found where they were made, as those that are not; when the heap is collected makes no difference.
func TestBornAndGone(t *testing.T) {
	text := "var a = nil;\nvar i = 0;\nwhile (i < 9) {\na = [i];\ni = i + 1; }\na = nil;\nprint(a);"
	for _, c := range []vm.Config{tight(), tight(1), tight(2), tight(0, 2, 1), {Nursery: 2, Old: 4, Collect: []int{1}}} {
		u := run{compiled(t, text), c, nil}
		events := u.events(t)
		d := u.debugger(t, 7)
		for id := range 9 {
			wantError(t, fmt.Sprint("Born ", id+1), d.Born(id+1), api.OK)
			wantWhere(t, fmt.Sprint("Born ", id+1), d, 5+3*id, api.Event{Kind: api.Stop, Line: 5})
		}
		wantNotBorn(t, d, events, 0, 10)
	}
	u := run{compiled(t, text), tight(2), nil}
	if there := u.gone(t, len(u.events(t))).Heap().Ids(); len(there) > 0 {
		t.Errorf("%v are there yet: nothing is said of such as are gone", there)
	}
}

// 9.1: in runs of all ends each identity that was given by the end is found, and no other one.
func TestBornInAllRuns(t *testing.T) {
	for name, u := range samples(t) {
		events := u.events(t)
		d := u.debugger(t, 50)
		x := u.gone(t, 0)
		given := 0
		for n := range len(events) + 1 {
			for ; given < x.Heap().Last(); given++ {
				wantError(t, name, d.Born(given+1), api.OK)
				wantWhere(t, fmt.Sprint(name, ": Born ", given+1), d, n, last(events, n))
			}
			if n < len(events) {
				x.Next()
			}
		}
		wantNotBorn(t, d, events, -1, 0, given+1)
	}
}

// 9.1: what is made behind the last event of a run, which ends for want of room then, was not given behind any number of events.
func TestBornBehindAll(t *testing.T) {
	u := run{compiled(t, "var a = [0];\nvar b = [[1], [2], [3], [4]];"), vm.Config{Nursery: 4, Old: 4}, nil}
	events := u.events(t)
	x := u.gone(t, len(events))
	if was := x.Heap().Last(); len(events) != 2 || was != 1 {
		t.Fatalf("%d events, %d identities", len(events), was)
	}
	if x.Next(); !x.Full() || x.Heap().Last() < 2 {
		t.Fatalf("full %v, %d identities", x.Full(), x.Heap().Last())
	}
	d := u.debugger(t, 1)
	wantError(t, "Born 1", d.Born(1), api.OK)
	wantWhere(t, "Born 1", d, 2, events[1])
	wantNotBorn(t, d, events, 2, 3)
}

// 9.1: behind none nothing was given: what an image makes ahead of its first event is given behind that one.
func TestBornAtTheBeginning(t *testing.T) {
	i := func(op, a int) code.Instr { return code.Instr{Op: op, A: a} }
	u := run{byHand(i(code.List, 0), i(code.Store, 0), i(code.Stop, 3), i(code.Nil, 0), i(code.Return, 0)), tight(), nil}
	d := u.debugger(t, 1)
	wantError(t, "Born 1", d.Born(1), api.OK)
	wantWhere(t, "Born 1", d, 1, api.Event{Kind: api.Stop, Line: 3})
	// Here there is no event at all.
	u = run{byHand(i(code.List, 0), i(code.Store, 0), i(code.Jump, 2)), tight(), nil}
	wantNotBorn(t, u.debugger(t, 1), nil, 0, 1, 2)
}
