package heap

import (
	"fmt"
	"math"
	"slices"
	"testing"

	"rewind/api"
)

const (
	least    = math.MinInt
	greatest = math.MaxInt
)

// made is a heap with so many cells.
func made(t *testing.T, nursery, old int) *Heap {
	t.Helper()
	h, err := New(nursery, old)
	if h == nil || err != nil {
		t.Fatalf("New(%d, %d): %v, %v", nursery, old, h, err)
	}
	return h
}

// put is a new object, as a value that leads to it.
func put(t *testing.T, h *Heap, kind, size int) Value {
	t.Helper()
	a, err := h.Alloc(kind, 0, size)
	if err != nil {
		t.Fatalf("Alloc(%d, 0, %d): %v", kind, size, err)
	}
	return ref(a)
}

// list is a new object of these fields.
func list(t *testing.T, h *Heap, fields ...Value) Value {
	t.Helper()
	v := put(t, h, Array, len(fields))
	for i, f := range fields {
		lay(t, h, v, i, f)
	}
	return v
}

// lay sets a field.
func lay(t *testing.T, h *Heap, to Value, i int, v Value) {
	t.Helper()
	if err := h.Set(to.N, i, v); err != nil {
		t.Fatalf("Set(%d, %d, %v): %v", to.N, i, v, err)
	}
}

// field is one that must be there.
func field(t *testing.T, h *Heap, of Value, i int) Value {
	t.Helper()
	v, err := h.Get(of.N, i)
	if err != nil {
		t.Fatalf("Get(%d, %d): %v", of.N, i, err)
	}
	return v
}

func ref(a int) Value        { return Value{Kind: Ref, N: a} }
func number(n int) Value     { return Value{Kind: Int, N: n} }
func text(s string) Value    { return Value{Kind: Text, S: s} }
func all(l []Value) []*Value { return some(l, 0, len(l)) }

// some is roots from a list.
func some(l []Value, from, to int) []*Value {
	var roots []*Value
	for i := from; i < to; i++ {
		roots = append(roots, &l[i])
	}
	return roots
}

// fine: a collection that must tell nothing.
func fine(t *testing.T, err error) {
	t.Helper()
	if err != nil {
		t.Fatalf("error %d", api.Tell(err))
	}
}

// wantUse: how many cells must be in use, and how many collections there must have been.
func wantUse(t *testing.T, h *Heap, nursery, old, minors, majors int) {
	t.Helper()
	n, o, i, j := h.Use()
	if n != nursery || o != old || i != minors || j != majors {
		t.Errorf("in use: %d, %d, %d, %d, want %d, %d, %d, %d", n, o, i, j, nursery, old, minors, majors)
	}
}

// wantIds: which identities must be there.
func wantIds(t *testing.T, h *Heap, ids ...int) {
	t.Helper()
	if l := h.Ids(); !slices.Equal(l, ids) {
		t.Errorf("identities %v, want %v", l, ids)
	}
}

// wantNothing: there may be no object at an address.
func wantNothing(t *testing.T, h *Heap, a int) {
	t.Helper()
	if k, g, i, s := h.Kind(a), h.Tag(a), h.Id(a), h.Size(a); k != 0 || g != 0 || i != 0 || s != 0 {
		t.Errorf("at %d: %d, %d, %d, %d, want nothing", a, k, g, i, s)
	}
	if v, err := h.Get(a, 0); v != (Value{}) || api.Tell(err) != api.ErrMissing {
		t.Errorf("at %d: field %v, error %d", a, v, api.Tell(err))
	}
	if err := h.Set(a, 0, Value{}); api.Tell(err) != api.ErrMissing {
		t.Errorf("at %d: Set tells %d", a, api.Tell(err))
	}
}

// told is all that can be asked of a heap from outside, addresses too: what identities and held values lead to, and on by fields.
func told(h *Heap, held ...Value) string {
	n, o, i, j := h.Use()
	s := fmt.Sprint(n, o, i, j, h.Last(), h.Ids(), held)
	var way []int
	for id := range h.Last() + 2 {
		a, ok := h.At(id)
		s += fmt.Sprint(";", a, ok)
		if ok {
			way = append(way, a)
		}
	}
	for _, v := range held {
		if v.Kind == Ref {
			way = append(way, v.N)
		}
	}
	seen := map[int]bool{}
	for len(way) > 0 {
		a := way[0]
		way = way[1:]
		if seen[a] {
			continue
		}
		seen[a] = true
		s += fmt.Sprint("\n", a, h.Kind(a), h.Tag(a), h.Id(a), h.Size(a))
		for i := range h.Size(a) {
			v, err := h.Get(a, i)
			s += fmt.Sprint(v, err)
			if v.Kind == Ref {
				way = append(way, v.N)
			}
		}
	}
	return s
}

// wantFull: a collection must tell ErrFull, and change nothing.
func wantFull(t *testing.T, h *Heap, what string, collect func([]*Value) error, held []Value, roots []*Value) {
	t.Helper()
	ahead := told(h, held...)
	if err := collect(roots); api.Tell(err) != api.ErrFull {
		t.Errorf("%s: error %d, want ErrFull", what, api.Tell(err))
	}
	if now := told(h, held...); now != ahead {
		t.Errorf("%s: told ErrFull, and changed\n%s\nto\n%s", what, ahead, now)
	}
}
