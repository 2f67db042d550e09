package debug

import (
	"fmt"
	"reflect"
	"slices"
	"sync"
	"testing"

	"rewind/api"
	"rewind/heap"
	"rewind/vm"
)

// machine is one that must be.
func machine(t *testing.T, d *Debugger) *vm.Machine {
	t.Helper()
	m, err := d.Machine()
	if m == nil || err != nil {
		t.Fatalf("no machine: %v", err)
	}
	return m
}

// 9.1: behind each number of events Machine is as one that ran there without stopping, and goes on as the run did.
func TestMachine(t *testing.T) {
	for name, u := range samples(t) {
		events := u.events(t)
		for _, every := range []int{1, 17, api.MaxEvents} {
			d := u.debugger(t, every)
			for _, n := range some(len(events)) {
				stand(t, d, n)
				x := machine(t, d)
				if got, want := whole(x), whole(u.gone(t, n)); got != want {
					t.Fatalf("%s, every %d, behind %d events:\n%s, want\n%s", name, every, n, got, want)
				}
				if got := rest(x); !slices.Equal(got, events[n:]) {
					t.Fatalf("%s, every %d, behind %d events: %.300s, want %.300s", name, every, n, told(got...), told(events[n:]...))
				}
				wantWhere(t, name, d, n, last(events, n))
			}
		}
	}
}

// 9.1: wherever a way leads, there Machine is as it was.
func TestMachineOnTheWay(t *testing.T) {
	u := samples(t)["sample, collected"]
	d := u.debugger(t, 6)
	wantError(t, "Break", d.Break(3, true), api.OK)
	d.Throws(true)
	for _, w := range ways() {
		stand(t, d, 40)
		for range 5 {
			w.goes(d)
			if got, want := whole(machine(t, d)), whole(u.gone(t, where(d))); got != want {
				t.Fatalf("%s, behind %d events:\n%s, want\n%s", w.name, where(d), got, want)
			}
		}
	}
}

// spoil writes into all that a machine gives out, and leads it to its end.
func spoil(x *vm.Machine) {
	h, m := x.Heap(), x.Image()
	for _, id := range h.Ids() {
		a, _ := h.At(id)
		for i := range h.Size(a) {
			h.Set(a, i, heap.Value{Kind: heap.Int, N: 99})
		}
	}
	rest(x)
	h.Alloc(heap.Array, 0, 9)
	h.Major(nil)
	for _, f := range m.Funcs {
		clear(f.Code)
		clear(f.Vars)
	}
	clear(m.Funcs)
	clear(m.Consts)
	clear(m.Classes)
}

// P4: a machine that was given out is the caller's: what becomes of it is seen neither in where the debugger stands nor in what it tells.
func TestSpoiltMachines(t *testing.T) {
	u := runOf(t, sample, 7, 8)
	m := modelOf(t, u)
	all := len(m.events)
	for _, every := range []int{1, 8, api.MaxEvents} {
		// Of one debugger nothing was asked yet when its machines are spoilt, of another one everything.
		fresh, asked := u.debugger(t, every), u.debugger(t, every)
		asked.Next()
		stand(t, asked, 0)
		for _, d := range []*Debugger{fresh, asked} {
			for n := 0; n <= all; n += 5 {
				stand(t, d, n)
				x, y := machine(t, d), machine(t, d)
				if x == y || x.Heap() == y.Heap() || x.Image() == y.Image() {
					t.Fatal("two machines are one, or share what they have")
				}
				spoil(x)
				wantWhere(t, "spoilt", d, n, last(m.events, n))
				if want := whole(u.gone(t, n)); whole(y) != want || whole(machine(t, d)) != want || !reflect.DeepEqual(y.Image(), u.image) {
					t.Fatalf("every %d, behind %d events: it is spoilt", every, n)
				}
			}
			stand(t, d, 0)
			c := die(3)
			again := *m
			wantModel(t, "spoilt", d, &again, calls(&c, 300, all, m.given[all]))
		}
	}
}

// 9.1: Where, Machine and Print change nothing: a debugger that is asked after each call stands, and goes, as one that is not.
func TestAskingChangesNothing(t *testing.T) {
	for name, u := range samples(t) {
		events := u.events(t)
		c := die(5)
		asked, other := u.debugger(t, 10), u.debugger(t, 10)
		for _, l := range calls(&c, 60, len(events), 12) {
			for _, ask := range []string{"a", "l", "this", ""} {
				printed(t, asked, ask)
			}
			machine(t, asked)
			asked.Where()
			if got, want := l.made(asked), l.made(other); got != want {
				t.Fatalf("%s: %+v: %s, want %s", name, l, got, want)
			}
		}
	}
}

// 9.1, P2: a call that tells an error changes nothing.
func TestErrorsChangeNothing(t *testing.T) {
	u := runOf(t, throwing)
	events := u.events(t)
	for n := range len(events) + 1 {
		d := u.debugger(t, 3)
		wantError(t, "Break", d.Break(4, true), api.OK)
		stand(t, d, n)
		wantError(t, "Break", d.Break(0, true), api.ErrRange)
		wantError(t, "Goto", d.Goto(13), api.ErrRange)
		wantError(t, "Born", d.Born(1), api.ErrMissing)
		if s, err := d.Print("nothing"); s != "" || api.Tell(err) != api.ErrMissing {
			t.Errorf("Print: %q, error %d", s, api.Tell(err))
		}
		wantWhere(t, "errors", d, n, last(events, n))
		wantPlaces(t, "errors", d, events, 7)
	}
}

// 9.1: two debuggers of one recording: each stands, and breaks, as if it were alone.
func TestTwoOfOneRecording(t *testing.T) {
	for name, u := range samples(t) {
		m := modelOf(t, u)
		all := len(m.events)
		for _, every := range []int{1, 20, api.MaxEvents} {
			r := u.recorded(t, every)
			first, second := made(t, r), made(t, r)
			one, two := *m, *m
			a, b := die(1), die(2)
			ofFirst, ofSecond := calls(&a, 80, all, m.given[all]), calls(&b, 80, all, m.given[all])
			for i := range ofFirst {
				wantModel(t, name+": the first one", first, &one, ofFirst[i:i+1])
				wantModel(t, name+": the second one", second, &two, ofSecond[i:i+1])
			}
			if !slices.Equal(r.Events(), m.events) {
				t.Errorf("%s: the recording has other events", name)
			}
			third := made(t, r)
			wantWhere(t, name+": a third one", third, 0, api.Event{})
			wantPlaces(t, name+": a third one", third, m.events)
		}
	}
}

// 9.1: recordings of every 1, of some, and of more than there are events: the same by each.
func TestEvery(t *testing.T) {
	for name, u := range samples(t) {
		m := modelOf(t, u)
		all := len(m.events)
		for _, every := range []int{1, 2, 3, 10, max(1, all-1), max(1, all), min(all+1, api.MaxEvents), api.MaxEvents} {
			c := die(4)
			again := *m
			wantModel(t, fmt.Sprint(name, ", every ", every), u.debugger(t, every), &again, calls(&c, 150, all, m.given[all]))
		}
	}
}

// P4: debuggers of one recording have nothing in common, however many are asked at the same time.
func TestAtTheSameTime(t *testing.T) {
	u := samples(t)["sample, collected"]
	m := modelOf(t, u)
	all := len(m.events)
	r := u.recorded(t, 9)
	var wait sync.WaitGroup
	for worker := range 8 {
		d := made(t, r)
		again := *m
		wait.Go(func() {
			c := die(worker)
			for _, l := range calls(&c, 100, all, m.given[all]) {
				if got, want := l.made(d), l.modelled(&again); got != want {
					t.Errorf("%+v: %s, want %s", l, got, want)
					return
				}
			}
		})
	}
	wait.Wait()
}
