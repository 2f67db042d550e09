package heap

import (
	"strings"
	"testing"

	"rewind/api"
)

// strange: values that no part of the program makes; a field is what it was given, whatever that is.
func strange() []Value {
	return []Value{
		{}, {Bool, 0, ""}, {Bool, 1, ""}, {Int, least, ""}, {Int, greatest, ""}, {Text, 0, ""}, {Text, 0, "a\x00\xff"},
		{Nil, 5, "nil"}, {Bool, 7, "b"}, {Int, 1, "one"}, {Text, -9, strings.Repeat("t", 1000)},
		{-1, 1, ""}, {Ref + 1, 1, ""}, {least, 2, "x"}, {greatest, -2, ""},
	}
}

// 5.2: a field is what it was given, in both parts; the others stay.
func TestSet(t *testing.T) {
	h := made(t, 20, 20)
	held := []Value{put(t, h, Instance, 3), put(t, h, Box, 1)}
	for _, collect := range []func([]*Value) error{func([]*Value) error { return nil }, h.Minor, h.Major} {
		fine(t, collect(all(held)))
		for _, o := range held {
			for i := range h.Size(o.N) {
				for _, v := range append(strange(), held[0], held[1], Value{Ref, o.N, "told"}) {
					lay(t, h, o, i, v)
					if got := field(t, h, o, i); got != v {
						t.Errorf("field %d: %v, want %v", i, got, v)
					}
				}
				lay(t, h, o, i, number(i))
			}
			for i := range h.Size(o.N) {
				if got := field(t, h, o, i); got != number(i) {
					t.Errorf("field %d: %v, want %d", i, got, i)
				}
			}
		}
	}
}

// 5.2: what Get and Set tell of wrong arguments, in which order; nothing is changed then.
func TestFieldErrors(t *testing.T) {
	h := made(t, 20, 20)
	held := []Value{list(t, h, number(1), number(2)), put(t, h, Array, 0)}
	gone := put(t, h, Array, 1).N
	fine(t, h.Minor(all(held)))
	held = append(held, list(t, h, number(3), number(4)), put(t, h, Box, 0))
	ahead := told(h, held...)
	nowhere := ref(gone)
	for _, o := range held {
		size := h.Size(o.N)
		for _, i := range []int{-1, size, size + 1, 1000, least, greatest} {
			if v, err := h.Get(o.N, i); v != (Value{}) || api.Tell(err) != api.ErrRange {
				t.Errorf("Get of field %d of %d: %v, error %d", i, size, v, api.Tell(err))
			}
			for _, v := range []Value{{}, number(1), o, nowhere} {
				if err := h.Set(o.N, i, v); api.Tell(err) != api.ErrRange {
					t.Errorf("Set of field %d of %d: error %d", i, size, api.Tell(err))
				}
			}
		}
		for i := range size {
			for _, n := range []int{gone, 0, -1, 10_000, least, greatest} {
				if err := h.Set(o.N, i, ref(n)); api.Tell(err) != api.ErrMissing {
					t.Errorf("Set to what is not there: error %d", api.Tell(err))
				}
			}
		}
	}
	for _, a := range []int{gone, -1, 10_000, least, greatest} {
		for _, i := range []int{-1, 0, 5} {
			if v, err := h.Get(a, i); v != (Value{}) || api.Tell(err) != api.ErrMissing {
				t.Errorf("Get at %d: %v, error %d", a, v, api.Tell(err))
			}
			for _, v := range []Value{{}, held[0], nowhere} {
				if err := h.Set(a, i, v); api.Tell(err) != api.ErrMissing {
					t.Errorf("Set at %d: error %d", a, api.Tell(err))
				}
			}
		}
	}
	if now := told(h, held...); now != ahead {
		t.Errorf("what told an error changed\n%s\nto\n%s", ahead, now)
	}
}

// 5.2: what is no Ref may have any number.
func TestNoRef(t *testing.T) {
	h := made(t, 10, 10)
	v := put(t, h, Array, 1)
	for _, kind := range []int{Nil, Bool, Int, Text, Ref + 1, -1} {
		if err := h.Set(v.N, 0, Value{Kind: kind, N: 12_345}); err != nil {
			t.Errorf("kind %d: error %d", kind, api.Tell(err))
		}
	}
}

// 5.2: Use counts what is there, whether something leads to it or not, until it is gone; and collections that told nothing.
func TestUse(t *testing.T) {
	h := made(t, 10, 12)
	held := []Value{put(t, h, Array, 3), put(t, h, Box, 0)}
	put(t, h, Closure, 2)
	wantUse(t, h, 8, 0, 0, 0)
	fine(t, h.Minor(all(held)))
	wantUse(t, h, 0, 5, 1, 0)
	fine(t, h.Minor(nil))
	wantUse(t, h, 0, 5, 2, 0)
	put(t, h, Array, 1)
	fine(t, h.Major(some(held, 0, 1)))
	wantUse(t, h, 0, 4, 2, 1)
	put(t, h, Array, 8)
	wantUse(t, h, 9, 4, 2, 1)
	if err := h.Minor(nil); api.Tell(err) != api.ErrFull {
		t.Errorf("13 cells in 12: error %d", api.Tell(err))
	}
	wantUse(t, h, 9, 4, 2, 1)
	fine(t, h.Major(nil))
	wantUse(t, h, 0, 0, 2, 2)
}

// An old object is noted once, however often it is given something of the nursery, and not for anything else: what is kept doesn't grow with the calls.
func TestNotedOnce(t *testing.T) {
	h := made(t, 20, 20)
	old := []Value{put(t, h, Array, 2), put(t, h, Array, 1)}
	fine(t, h.Minor(all(old)))
	young := put(t, h, Array, 1)
	for round := range 100 {
		lay(t, h, old[0], round%2, young)
		lay(t, h, old[1], 0, old[round%2])
		lay(t, h, young, 0, old[round%2])
		lay(t, h, old[1], 0, number(round))
	}
	if len(h.noted) != 1 {
		t.Errorf("%d notes", len(h.noted))
	}
	fine(t, h.Minor(all(old)))
	if len(h.noted) != 0 {
		t.Errorf("%d notes behind a Minor", len(h.noted))
	}
}
