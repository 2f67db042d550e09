package vm

import (
	"slices"
	"testing"

	"rewind/api"
	"rewind/code"
)

// sane: does a machine have what it may have?
func sane(x *Machine) bool {
	s := x.State()
	if len(s.Frames) < 1 || len(s.Frames) > api.MaxCalls+1 || s.Events != x.Count() || s.Stops > s.Events || s.Ended != x.Ended() || s.Frames[0].Func != 0 {
		return false
	}
	for i, f := range s.Frames {
		function := x.Image().Funcs[f.Func]
		if i > 0 && f.Func == 0 || len(f.Slots) != function.Slots || f.At < -1 || f.At > len(function.Code) || len(f.Stack) > 200 {
			return false
		}
	}
	return true
}

// 6.1: an image with which nothing is wrong, whatever it does, comes to its end, likewise whenever the heap is collected; with little room it tells the first events.
func TestAnyImage(t *testing.T) {
	m := &maker{die: 6}
	found := map[string]int{}
	for round := range 4000 {
		image := m.drawn()
		if err := code.Check(image); err != nil {
			t.Fatalf("round %d: error %d: no image that may be run", round, api.Tell(err))
		}
		whole := started(t, image, roomy(), 1, 2, 3)
		want := rest(whole, func(api.Event) {
			if !sane(whole) {
				t.Fatalf("round %d: %+v", round, whole.State())
			}
		})
		wantEnd(t, "drawn", whole, len(want), whole.Full())
		for _, c := range []Config{{60, 1_048_576, nil}, {60, 1_048_576, []int{m.n(3), m.n(3), m.n(3)}}, {70, 1_048_576, []int{1 + m.n(2)}}} {
			x := started(t, image, c, 1, 2, 3)
			if got := rest(x); !slices.Equal(got, want) || x.Full() != whole.Full() || x.Heap().Last() != whole.Heap().Last() {
				t.Fatalf("round %d, %v: %s, want %s; full %v, want %v", round, c, told(got...), told(want...), x.Full(), whole.Full())
			}
		}
		little := Config{1 + m.n(20), 1 + m.n(40), []int{m.n(3), m.n(3)}}
		x := started(t, image, little, 1, 2, 3)
		got := rest(x)
		if len(got) > len(want) || !slices.Equal(got, want[:len(got)]) || x.Full() != (whole.Full() || len(got) < len(want)) {
			t.Fatalf("round %d, %v: %s, want the first of %s; full %v", round, little, told(got...), told(want...), x.Full())
		}
		if x.Full() && !whole.Full() {
			found["little"]++
		}
		tally(found, whole, want)
	}
	for _, what := range []string{"little", "full", "done", "dead", "caught", "many", "out", "objects", "type", "zero", "index", "name", "arity", "depth"} {
		if found[what] < 20 {
			t.Errorf("%s: %d times: what is drawn does it too seldom", what, found[what])
		}
	}
}

// tally notes what came to be.
func tally(found map[string]int, x *Machine, events []api.Event) {
	if x.Full() {
		found["full"]++
	}
	if len(events) == api.MaxEvents {
		found["many"]++
	}
	if x.Heap().Last() > 5 {
		found["objects"]++
	}
	names := []string{api.Out: "out", api.Caught: "caught", api.Done: "done", api.Dead: "dead", api.Stop: "stop"}
	for _, e := range events {
		if e.Kind == api.Thrown {
			found[e.Text]++
		} else {
			found[names[e.Kind]]++
		}
	}
}

// 6.2: a Copy of any machine, behind any number of events, goes on as the machine does.
func TestAnyCopy(t *testing.T) {
	m := &maker{die: 7}
	for round := range 1500 {
		image := m.drawn()
		c := Config{1 + m.n(70), 1 + m.n(200), []int{m.n(3), m.n(3)}}
		x := started(t, image, c, 1, 2, 3)
		var machines []*Machine
		events := rest(x, func(api.Event) {
			if x.Count() < 20 && m.n(5) == 0 {
				machines = append(machines, x.Copy())
			}
		})
		for _, y := range append(machines, x.Copy()) {
			n := y.Count()
			if got := rest(y); !slices.Equal(got, events[n:]) || y.Full() != x.Full() || y.Heap().Last() != x.Heap().Last() {
				t.Fatalf("round %d, behind %d events: %s, want %s", round, n, told(got...), told(events[n:]...))
			}
		}
	}
}
