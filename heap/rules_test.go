package heap

import (
	"slices"
	"sync"
	"testing"

	"rewind/api"
)

// P1: a heap that New did not make has no cells; none of its calls panics.
func TestNoHeap(t *testing.T) {
	for what, h := range map[string]*Heap{"nil": nil, "zero": {}} {
		for _, a := range []int{0, 1, 2, -1, least, greatest} {
			wantNothing(t, h, a)
			if at, ok := h.At(a); at != 0 || ok {
				t.Errorf("%s: identity %d at %d", what, a, at)
			}
		}
		if a, err := h.Alloc(Array, 0, 0); a != 0 || api.Tell(err) != api.ErrFull {
			t.Errorf("%s: Alloc: %d, error %d", what, a, api.Tell(err))
		}
		if a, err := h.Alloc(0, 0, 0); a != 0 || api.Tell(err) != api.ErrArg {
			t.Errorf("%s: Alloc of no kind: %d, error %d", what, a, api.Tell(err))
		}
		wantUse(t, h, 0, 0, 0, 0)
		wantIds(t, h)
		roots := []Value{ref(0), ref(1), ref(2), number(1)}
		fine(t, h.Minor(all(roots)))
		fine(t, h.Major(append(all(roots), nil)))
		if !slices.Equal(roots, []Value{ref(0), ref(1), ref(2), number(1)}) {
			t.Errorf("%s: roots %v", what, roots)
		}
		if n, o, _, _ := h.Copy().Use(); n != 0 || o != 0 || h.Last() != 0 {
			t.Errorf("%s: in use: %d, %d, last %d", what, n, o, h.Last())
		}
	}
}

// P4: the list of roots is not written into, only what it leads to is; nor is what stands behind its length.
func TestRootsList(t *testing.T) {
	both(t, 20, 20, func(t *testing.T, h *Heap, collect func([]*Value) error) {
		a, b, behind := list(t, h, number(1)), list(t, h, number(2)), list(t, h, number(3))
		was := behind
		roots := []*Value{&a, nil, &b, &behind}
		ahead := slices.Clone(roots)
		fine(t, collect(roots[:3]))
		if !slices.Equal(roots, ahead) || behind != was {
			t.Errorf("roots %v, behind them %v", roots, behind)
		}
		wantIds(t, h, 1, 2)
	})
}

// P4: roots are not kept: what they are later is not the heap's matter.
func TestRootsNotKept(t *testing.T) {
	both(t, 20, 20, func(t *testing.T, h *Heap, collect func([]*Value) error) {
		v := list(t, h, number(1))
		w := v
		fine(t, collect([]*Value{&v, &w}))
		at := v
		w = text("mine")
		fine(t, h.Major([]*Value{&v}))
		if w != text("mine") || field(t, h, v, 0) != number(1) {
			t.Errorf("%v, %v, ahead %v", v, w, at)
		}
	})
}

// P4: lists that are answered are the caller's.
func TestFresh(t *testing.T) {
	h := made(t, 20, 20)
	put(t, h, Array, 0)
	put(t, h, Array, 0)
	a, b := h.Ids(), h.Ids()
	clear(a)
	_ = append(a[:1], 9, 9, 9)
	if !slices.Equal(b, []int{1, 2}) {
		t.Errorf("identities %v", b)
	}
	wantIds(t, h, 1, 2)
}

// P4: heaps have nothing in common, however many are asked at the same time.
func TestAtTheSameTime(t *testing.T) {
	h, held := lived(t)
	var wait sync.WaitGroup
	for seed := range 8 {
		c := h.Copy()
		wait.Go(func() {
			d := die(seed)
			l := born(&d, 30, 90)
			for range 300 {
				if err := l.step(); err != nil {
					t.Error(err)
				}
				if err := l.alike(); err != nil {
					t.Error(err)
				}
			}
			mine := slices.Clone(held)
			for range 20 {
				if err := c.Major(all(mine)); err != nil {
					t.Error(err)
				}
			}
			if v, err := c.Get(mine[3].N, 0); err != nil || v != mine[0] {
				t.Errorf("%v, error %d", v, api.Tell(err))
			}
		})
	}
	wait.Wait()
}
