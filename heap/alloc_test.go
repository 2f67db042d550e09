package heap

import (
	"slices"
	"testing"

	"rewind/api"
)

// 5.1: how many cells both parts may have.
func TestNew(t *testing.T) {
	for _, l := range [][2]int{{0, 1}, {1, 0}, {0, 0}, {-1, 1}, {1, -1}, {65_537, 1}, {1, 1_048_577}, {65_536, 0}, {0, 1_048_576}, {least, 1}, {1, least}, {greatest, 1}, {1, greatest}} {
		if h, err := New(l[0], l[1]); h != nil || api.Tell(err) != api.ErrRange {
			t.Errorf("New%v: %v, error %d", l, h, api.Tell(err))
		}
	}
	for _, l := range [][2]int{{1, 1}, {65_536, 1}, {1, 1_048_576}, {65_536, 1_048_576}, {600, 60_000}} {
		h := made(t, l[0], l[1])
		wantUse(t, h, 0, 0, 0, 0)
		wantIds(t, h)
		if h.Last() != 0 {
			t.Errorf("New%v: last %d", l, h.Last())
		}
		for _, a := range []int{0, 1, 2, l[0], l[0] + l[1]} {
			wantNothing(t, h, a)
		}
	}
}

// 5.1: an object is as it was asked for, all its fields Nil.
func TestAlloc(t *testing.T) {
	h := made(t, 3000, 1)
	used, seen := 0, map[int]bool{}
	for i, l := range [][3]int{{Instance, 7, 2}, {Array, 0, 0}, {Closure, -3, 1}, {Array, greatest, 1000}, {Instance, least, 999}} {
		a, err := h.Alloc(l[0], l[1], l[2])
		if err != nil || seen[a] {
			t.Fatalf("%v: at %d, again %v, error %d", l, a, seen[a], api.Tell(err))
		}
		seen[a] = true
		if h.Kind(a) != l[0] || h.Tag(a) != l[1] || h.Size(a) != l[2] || h.Id(a) != i+1 {
			t.Errorf("%v: %d, %d, %d, identity %d", l, h.Kind(a), h.Tag(a), h.Size(a), h.Id(a))
		}
		for f := range l[2] {
			if v := field(t, h, ref(a), f); v != (Value{}) {
				t.Errorf("%v: field %d is %v", l, f, v)
			}
		}
		if at, ok := h.At(i + 1); at != a || !ok || h.Last() != i+1 {
			t.Errorf("%v: identity %d at %d, %v, last %d", l, i+1, at, ok, h.Last())
		}
		used += 1 + l[2]
		wantUse(t, h, used, 0, 0, 0)
	}
	wantIds(t, h, 1, 2, 3, 4, 5)
}

// 5.1: what may not be is told ahead of what has no room; neither changes anything.
func TestAllocErrors(t *testing.T) {
	h := made(t, 4, 4)
	v := put(t, h, Array, 1)
	ahead := told(h, v)
	for _, c := range []struct {
		kind, size int
		err        api.Errno
	}{
		{0, 0, api.ErrArg}, {5, 0, api.ErrArg}, {-1, 0, api.ErrArg}, {least, 0, api.ErrArg}, {greatest, 0, api.ErrArg},
		{Array, -1, api.ErrArg}, {Box, 1001, api.ErrArg}, {Instance, least, api.ErrArg}, {Closure, greatest, api.ErrArg},
		{0, 1000, api.ErrArg}, {5, 1001, api.ErrArg},
		{Array, 2, api.ErrFull}, {Box, 2, api.ErrFull}, {Instance, 1000, api.ErrFull},
	} {
		if a, err := h.Alloc(c.kind, 9, c.size); a != 0 || api.Tell(err) != c.err {
			t.Errorf("Alloc(%d, 9, %d): %d, error %d, want %d", c.kind, c.size, a, api.Tell(err), c.err)
		}
		if now := told(h, v); now != ahead {
			t.Errorf("Alloc(%d, 9, %d) changed\n%s\nto\n%s", c.kind, c.size, ahead, now)
		}
	}
	put(t, h, Array, 1)
	if _, err := h.Alloc(0, 0, 0); api.Tell(err) != api.ErrArg {
		t.Errorf("no kind, no room: error %d", api.Tell(err))
	}
}

// 5.1: a nursery takes what it has cells for, to the last one, and no more; behind a collection again.
func TestNurseryJustFull(t *testing.T) {
	for _, room := range []int{1, 2, 60, 1001, 1002, 65_536} {
		h := made(t, room, 1_048_576)
		for round := range 2 {
			for left := room; left > 0; {
				size := min(1000, left-1)
				put(t, h, Array, size)
				left -= 1 + size
			}
			wantUse(t, h, room, 0, round, 0)
			for _, kind := range []int{Instance, Array, Closure, Box} {
				if _, err := h.Alloc(kind, 0, 0); api.Tell(err) != api.ErrFull {
					t.Errorf("%d cells, all in use: error %d", room, api.Tell(err))
				}
			}
			fine(t, h.Minor(nil))
			wantUse(t, h, 0, 0, round+1, 0)
		}
		if _, err := h.Alloc(Array, 0, room); room <= 1000 && api.Tell(err) != api.ErrFull {
			t.Errorf("%d fields in %d cells: error %d", room, room, api.Tell(err))
		}
	}
}

// 5.1: the greatest heap has all of its cells.
func TestGreatest(t *testing.T) {
	h := made(t, 65_536, 1_048_576)
	var last Value
	for range 16 {
		for range 65 {
			last = list(t, h, append(make([]Value, 999), last)...)
		}
		last = list(t, h, append(make([]Value, 469), last)...)
		fine(t, h.Minor([]*Value{&last}))
	}
	wantUse(t, h, 0, 1_048_576, 16, 0)
	fine(t, h.Minor([]*Value{&last}))
	fine(t, h.Major([]*Value{&last}))
	wantUse(t, h, 0, 1_048_576, 17, 1)
	put(t, h, Array, 0)
	if err := h.Minor([]*Value{&last}); api.Tell(err) != api.ErrFull {
		t.Errorf("a Minor of one cell more: error %d", api.Tell(err))
	}
	held := []Value{last, put(t, h, Array, 0)}
	if err := h.Major(all(held)); api.Tell(err) != api.ErrFull {
		t.Errorf("a Major of one cell more: error %d", api.Tell(err))
	}
	wantUse(t, h, 2, 1_048_576, 17, 1)
	if n := len(h.Ids()); n != 16*66+2 {
		t.Errorf("%d identities", n)
	}
}

// 5.1: a Box has no identity, and takes none from those that come.
func TestBoxes(t *testing.T) {
	h := made(t, 20, 20)
	box := put(t, h, Box, 1)
	if h.Kind(box.N) != Box || h.Id(box.N) != 0 || h.Size(box.N) != 1 || h.Last() != 0 {
		t.Errorf("a Box: %s", told(h, box))
	}
	wantIds(t, h)
	a := put(t, h, Array, 0)
	other := put(t, h, Box, 0)
	b := put(t, h, Closure, 0)
	if h.Id(a.N) != 1 || h.Id(b.N) != 2 || h.Id(other.N) != 0 || h.Last() != 2 {
		t.Errorf("identities %d, %d, last %d", h.Id(a.N), h.Id(b.N), h.Last())
	}
	wantIds(t, h, 1, 2)
	held := []Value{box, a, other, b}
	for _, collect := range []func([]*Value) error{h.Minor, h.Major} {
		fine(t, collect(all(held)))
		wantIds(t, h, 1, 2)
		if h.Kind(held[0].N) != Box || h.Id(held[0].N) != 0 || h.Size(held[0].N) != 1 || h.Kind(held[2].N) != Box {
			t.Errorf("a Box that was moved: %s", told(h, held...))
		}
		if a, ok := h.At(0); a != 0 || ok {
			t.Errorf("identity 0 at %d", a)
		}
	}
}

// 5.1: an identity that is gone, or was never given, leads nowhere, and is not given again.
func TestIdentities(t *testing.T) {
	for _, major := range []bool{false, true} {
		h := made(t, 20, 20)
		held := []Value{put(t, h, Array, 0), put(t, h, Instance, 2), put(t, h, Closure, 1)}
		gone := held[0].N
		collect := h.Minor
		if major {
			collect = h.Major
		}
		fine(t, collect(some(held, 1, 3)))
		wantIds(t, h, 2, 3)
		wantNothing(t, h, gone)
		for _, id := range []int{1, 0, -1, 4, least, greatest} {
			if a, ok := h.At(id); a != 0 || ok {
				t.Errorf("identity %d: at %d, %v", id, a, ok)
			}
		}
		for i, id := range []int{2, 3} {
			if a, ok := h.At(id); a != held[i+1].N || !ok || h.Id(a) != id {
				t.Errorf("identity %d: at %d, %v", id, a, ok)
			}
		}
		if v := put(t, h, Array, 0); h.Id(v.N) != 4 || h.Last() != 4 {
			t.Errorf("the next identity is %d, last %d", h.Id(v.N), h.Last())
		}
		wantIds(t, h, 2, 3, 4)
		fine(t, h.Major(nil))
		wantIds(t, h)
		if h.Last() != 4 {
			t.Errorf("last %d, when all are gone", h.Last())
		}
	}
}

// 5.1: Ids rise, however objects lie.
func TestIdsRise(t *testing.T) {
	h := made(t, 100, 100)
	var held []Value
	for range 50 {
		held = append(held, put(t, h, Array, 0))
	}
	slices.Reverse(held)
	fine(t, h.Major(some(held, 0, 40)))
	want := []int{}
	for id := 11; id <= 50; id++ {
		want = append(want, id)
	}
	wantIds(t, h, want...)
}

// 5.1: addresses at which nothing is.
func TestNoAddress(t *testing.T) {
	h := made(t, 50, 50)
	held := []Value{put(t, h, Array, 3), put(t, h, Array, 3)}
	fine(t, h.Minor(all(held)))
	held = append(held, put(t, h, Array, 3))
	there := map[int]bool{}
	for _, v := range held {
		there[v.N] = true
	}
	for a := -200; a < 200; a++ {
		if !there[a] {
			wantNothing(t, h, a)
		}
	}
	for _, a := range []int{least, least + 1, least + 2, least + 3, greatest, greatest - 1, greatest - 2, 1 << 31, 1 << 32, -1 << 32} {
		wantNothing(t, h, a)
	}
}

// An address that is out of date leads to nothing, whatever came since: no object is taken for another one.
func TestOutOfDate(t *testing.T) {
	h := made(t, 30, 30)
	var gone []int
	for round := range 40 {
		v := list(t, h, number(round))
		w := list(t, h, v)
		gone = append(gone, v.N, w.N)
		fine(t, h.Minor([]*Value{&w}))
		gone = append(gone, w.N, field(t, h, w, 0).N)
		if round%2 > 0 {
			fine(t, h.Major([]*Value{&w}))
			gone = append(gone, w.N, field(t, h, w, 0).N)
		}
		fine(t, h.Major(nil))
		for range 10 {
			put(t, h, Array, 1)
		}
		for _, a := range gone {
			wantNothing(t, h, a)
		}
		fine(t, h.Minor(nil))
	}
}
