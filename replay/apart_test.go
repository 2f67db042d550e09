package replay

import (
	"reflect"
	"slices"
	"sync"
	"testing"

	"rewind/api"
	"rewind/heap"
	"rewind/vm"
)

// changing writes into a list, an instance, a box and variables, over and over.
const changing = "class A { field p; }\nvar a = new A(); var l = [0]; var n = 0; var f = fn() { n = n + 1; return n; };\n" +
	"while (true) { var i = input(); if (i == nil) { throw l; } a.p = i; l[0] = l[0] + i; l = l + [a.p]; print(l[0] + f() * 1000); }"

func changes(t *testing.T, c vm.Config) run {
	t.Helper()
	return run{compiled(t, changing), c, []int{1, 2, 3, 4, 5, 6, 7, 8, 9, 10}}
}

// 7.1: of two machines that At gave for the same number one goes on: the other one, the recording, and what At gives later do not see it.
func TestMachinesOfTheirOwn(t *testing.T) {
	for _, c := range []vm.Config{roomy(), roomy(1), roomy(2, 0), {Nursery: 60, Old: 600, Collect: []int{0, 0, 1}}} {
		u := changes(t, c)
		events, _ := u.end(t)
		for _, every := range []int{1, 2, 10, len(events), api.MaxEvents} {
			r := u.recorded(t, every)
			for n := range len(events) + 1 {
				was := whole(u.gone(t, n))
				x, y := at(t, r, n), at(t, r, n)
				if got := rest(x); !slices.Equal(got, events[n:]) {
					t.Fatalf("%+v, every %d, behind %d events: %.300s, want %.300s", c, every, n, told(got...), told(events[n:]...))
				}
				if whole(y) != was || whole(at(t, r, n)) != was {
					t.Fatalf("%+v, every %d: what goes on from %d events on is seen elsewhere", c, every, n)
				}
				if x == y || x.Heap() == y.Heap() || !slices.Equal(r.Events(), events) {
					t.Fatalf("%+v, every %d: two machines are one, or there are other events", c, every)
				}
			}
		}
	}
}

// 7.1, P4: whatever is done to the heap and the image of a machine that At gave, others do not see it.
func TestSpoiltMachines(t *testing.T) {
	u := changes(t, roomy(0, 1))
	events, _ := u.end(t)
	for _, every := range []int{1, 5, api.MaxEvents} {
		r := u.recorded(t, every)
		for n := 0; n <= len(events); n += 3 {
			was := whole(u.gone(t, n))
			y := at(t, r, n)
			spoil(at(t, r, n))
			for _, x := range []*vm.Machine{y, at(t, r, n)} {
				if whole(x) != was || !reflect.DeepEqual(x.Image(), u.image) {
					t.Fatalf("every %d, behind %d events: it is spoilt", every, n)
				}
				if got := rest(x); !slices.Equal(got, events[n:]) {
					t.Fatalf("every %d, behind %d events: %.300s, want %.300s", every, n, told(got...), told(events[n:]...))
				}
			}
		}
	}
}

// spoil writes into all that a machine gives out.
func spoil(x *vm.Machine) {
	h, m, s := x.Heap(), x.Image(), x.State()
	for _, id := range h.Ids() {
		a, _ := h.At(id)
		for i := range h.Size(a) {
			h.Set(a, i, heap.Value{Kind: heap.Int, N: 99})
		}
	}
	h.Alloc(heap.Array, 0, 9)
	h.Major(nil)
	clear(s.Inputs)
	for _, f := range s.Frames {
		clear(f.Slots)
		clear(f.Stack)
	}
	clear(s.Frames)
	for _, f := range m.Funcs {
		clear(f.Code)
		clear(f.Handlers)
		clear(f.Vars)
	}
	clear(m.Funcs)
	clear(m.Consts)
	for _, c := range m.Classes {
		clear(c.Fields)
	}
	clear(m.Classes)
}

// 7.1, P4: what the caller does with the slice that Events gave is not seen: in no Events, and in no At.
func TestEventsAreTheCallers(t *testing.T) {
	for name, u := range samples(t) {
		want, _ := u.end(t)
		r := u.recorded(t, 4)
		a, b := r.Events(), r.Events()
		for i := range a {
			a[i] = api.Event{Kind: api.Out, Line: 9, Text: "mine"}
		}
		_ = append(a[:len(a)/2], api.Event{Kind: api.Dead})
		_ = append(b, api.Event{Kind: api.Dead})
		if !slices.Equal(b, want) || !slices.Equal(r.Events(), want) {
			t.Errorf("%s: %.300s, want %.300s", name, told(r.Events()...), told(want...))
		}
		for _, n := range places(len(want), 4) {
			if x := at(t, r, n); x.Count() != n || !slices.Equal(rest(x), want[n:]) {
				t.Fatalf("%s: behind %d events it goes another way", name, n)
			}
		}
	}
}

// P4: nothing that is handed in is written into, not even behind a list's length, and what becomes of it later makes no difference.
func TestRecordKeepsNothing(t *testing.T) {
	u := run{compiled(t, sample), vm.Config{Nursery: 70, Old: 5000, Collect: []int{1, 0, 2}}, []int{5, 6, 7, 8}}
	want, _ := u.end(t)
	image, again := compiled(t, sample), compiled(t, sample)
	inputs, collect := []int{5, 6, 7, 8, 9}, []int{1, 0, 2, 1}
	r := run{image, vm.Config{Nursery: 70, Old: 5000, Collect: collect[:3]}, inputs[:4]}.recorded(t, 6)
	at(t, r, 20)
	if !reflect.DeepEqual(image, again) || !slices.Equal(inputs, []int{5, 6, 7, 8, 9}) || !slices.Equal(collect, []int{1, 0, 2, 1}) {
		t.Error("what was handed in was written into")
	}
	clear(inputs)
	copy(collect, []int{2, 2, 2, 2})
	for i := range image.Funcs {
		clear(image.Funcs[i].Code)
	}
	clear(image.Funcs)
	clear(image.Consts)
	clear(image.Classes)
	if !slices.Equal(r.Events(), want) {
		t.Errorf("%.300s, want %.300s", told(r.Events()...), told(want...))
	}
	for n := range len(want) + 1 {
		if got, was := whole(at(t, r, n)), whole(u.gone(t, n)); got != was {
			t.Fatalf("behind %d events:\n%s, want\n%s", n, got, was)
		}
	}
}

// P1: a recording that Record did not make is of no run; none of its calls panics.
func TestNoRecording(t *testing.T) {
	for what, r := range map[string]*Recording{"nil": nil, "zero": {}} {
		if len(r.Events()) != 0 || r.Full() {
			t.Errorf("%s: %s, full %v", what, told(r.Events()...), r.Full())
		}
		for _, n := range []int{-1, 0, 1} {
			if x, err := r.At(n); x != nil || api.Tell(err) != api.ErrRange {
				t.Errorf("%s: behind %d events %v, error %d", what, n, x, api.Tell(err))
			}
		}
	}
}

// P4: recordings have nothing in common, however many are made and asked at the same time.
func TestAtTheSameTime(t *testing.T) {
	u := run{compiled(t, sample), vm.Config{Nursery: 60, Old: 600, Collect: []int{1, 0, 2}}, []int{5, 6}}
	want, _ := u.end(t)
	var wait sync.WaitGroup
	for worker := range 8 {
		wait.Go(func() {
			for every := worker + 1; every < 60; every += 8 {
				r, err := Record(u.image, u.config, u.inputs, every)
				if err != nil {
					t.Error(err)
					return
				}
				for n := 0; n <= len(want); n += 7 {
					x, err := r.At(n)
					if err != nil || !slices.Equal(rest(x), want[n:]) {
						t.Errorf("every %d, behind %d events: it goes another way, or error %v", every, n, err)
						return
					}
				}
			}
		})
	}
	wait.Wait()
}

// A machine that goes another way than the run did is not given out: its events are held against those that were.
func TestAnotherWay(t *testing.T) {
	u := samples(t)["sample"]
	for _, spoilt := range []api.Event{{}, {Kind: api.Stop, Line: 1}, {Kind: api.Out, Text: "other"}} {
		r := u.recorded(t, 10)
		r.events[13] = spoilt
		for n, right := range map[int]bool{0: true, 10: true, 13: true, 14: false, 19: false, 20: true, 25: true} {
			if x, err := r.At(n); (x != nil && err == nil) != right {
				t.Errorf("behind %d events: %v, error %v", n, x, err)
			}
		}
	}
}
