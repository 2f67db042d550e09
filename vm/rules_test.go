package vm

import (
	"slices"
	"sync"
	"testing"

	"rewind/api"
	"rewind/heap"
)

// P1: a machine that New did not make is over; none of its calls panics.
func TestNoMachine(t *testing.T) {
	for what, x := range map[string]*Machine{"nil": nil, "zero": {}} {
		if e, ok := x.Next(); ok || e != (api.Event{}) {
			t.Errorf("%s: %v", what, e)
		}
		s := x.State()
		if !x.Ended() || x.Full() || x.Count() != 0 || len(s.Frames)+len(s.Inputs)+s.Events+s.Stops != 0 || !s.Ended {
			t.Errorf("%s: ended %v, full %v, %d events, %+v", what, x.Ended(), x.Full(), x.Count(), s)
		}
		if x.Heap() != nil || x.Image() != nil {
			t.Errorf("%s: it has something", what)
		}
		if c := x.Copy(); !c.Ended() || c.Count() != 0 {
			t.Errorf("%s: a copy is not over", what)
		}
		for _, v := range []heap.Value{{}, number(5), text("t"), truth(true), ref(1), ref(least), {Kind: 9}} {
			want := map[int]string{heap.Nil: "nil", heap.Int: "5", heap.Text: "t", heap.Bool: "true"}[v.Kind]
			if got := x.Show(v); got != want {
				t.Errorf("%s: %v is shown as %q", what, v, got)
			}
		}
	}
}

// P1: whatever others do to a machine's heap, it does not panic, and comes to its end.
func TestHeapOfOthers(t *testing.T) {
	for at := range 40 {
		for _, spoil := range []func(h *heap.Heap){
			func(h *heap.Heap) { h.Major(nil) },
			func(h *heap.Heap) { h.Minor(nil) },
			func(h *heap.Heap) { h.Alloc(heap.Closure, 99, 3) },
			func(h *heap.Heap) {
				for _, id := range h.Ids() {
					a, _ := h.At(id)
					for i := range h.Size(a) {
						h.Set(a, i, heap.Value{Kind: 9, N: 9})
					}
				}
			},
		} {
			x := doing(t, sample, Config{60, 600, []int{1, 2}}, 1, 2)
			for range at {
				x.Next()
			}
			spoil(x.Heap())
			rest(x)
			if !x.Ended() {
				t.Errorf("behind %d events: not over", x.Count())
			}
		}
	}
}

// P4: what a machine tells hangs on what it was given alone: addresses, too, are the same.
func TestSameAgain(t *testing.T) {
	var first []string
	for again := range 3 {
		x := doing(t, sample, Config{60, 600, []int{0, 1, 2}}, 3, 4)
		n := 0
		rest(x, func(e api.Event) {
			s := told(e)
			for _, f := range x.State().Frames {
				for _, v := range slices.Concat(f.Slots, f.Stack) {
					s += x.Show(v) + " " + x.Show(number(v.N)) + ","
				}
			}
			if again == 0 {
				first = append(first, s)
			} else if first[n] != s {
				t.Fatalf("event %d: %s, first %s", n, s, first[n])
			}
			n++
		})
	}
}

// P4: machines, and copies of one, have nothing in common that changes, however many go on at the same time.
func TestAtTheSameTime(t *testing.T) {
	x := doing(t, sample, Config{60, 600, []int{1, 0, 2}}, 5, 6)
	want := told(rest(x.Copy())...)
	image := compiled(t, sample)
	var wait sync.WaitGroup
	for range 8 {
		y := x.Copy()
		wait.Go(func() {
			for range 20 {
				z, err := New(image, Config{60, 600, []int{1, 0, 2}}, []int{5, 6})
				if err != nil {
					t.Error(err)
					return
				}
				for _, m := range []*Machine{z, y.Copy()} {
					if got := told(rest(m, func(api.Event) { m.Copy().Next() })...); got != want {
						t.Errorf("%s, want %s", got, want)
					}
				}
			}
		})
	}
	wait.Wait()
}
