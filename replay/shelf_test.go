package replay

import (
	"slices"
	"testing"

	"rewind/api"
	"rewind/code"
	"rewind/vm"
)

// wantShelf: machines are kept behind no event, and every so many events up to the end.
func wantShelf(t *testing.T, what string, r *Recording) {
	t.Helper()
	s := r.kept
	if want := len(r.events)/s.every + 1; len(s.machines) != want {
		t.Errorf("%s: %d machines for %d events, every %d", what, len(s.machines), len(r.events), s.every)
	}
	many := 0
	for i, m := range s.machines {
		many += cells(m)
		if m.Count() != i*s.every {
			t.Errorf("%s: machine %d, every %d, is behind %d events", what, i, s.every, m.Count())
		}
	}
	if s.cells != many || many > s.most && len(s.machines) > 1 {
		t.Errorf("%s: %d cells, told %d, at most %d", what, many, s.cells, s.most)
	}
}

// 7.1: the machine is kept every so many events, so that At has at most one less to go.
func TestKeptEverySoMany(t *testing.T) {
	for name, u := range samples(t) {
		events, _ := u.end(t)
		for _, every := range everies(len(events)) {
			r := u.recorded(t, every)
			wantShelf(t, name, r)
			if r.kept.every != every {
				t.Errorf("%s: every %d, not %d", name, r.kept.every, every)
			}
		}
	}
}

// 7.1: where there is little room for machines, fewer are kept; Events, Full and At are the same.
func TestFewerKept(t *testing.T) {
	for _, name := range []string{"sample, collected", "for ever", "want of room", "empty", "just MaxEvents"} {
		u := samples(t)[name]
		events, end := u.end(t)
		for _, every := range []int{1, 3, 100, api.MaxEvents} {
			for _, most := range []int{0, 1, 50, 500, 5000} {
				r := &Recording{kept: shelf{every: every, most: most}}
				r.run(u.gone(t, 0))
				wantShelf(t, name, r)
				if !slices.Equal(r.Events(), events) || r.Full() != end.Full() {
					t.Fatalf("%s, every %d, %d cells: there are other events", name, every, most)
				}
				for n := 0; n <= len(events); n += 1 + len(events)/9 {
					if whole(at(t, r, n)) != whole(u.gone(t, n)) {
						t.Fatalf("%s, every %d, %d cells: behind %d events it is another machine", name, every, most, n)
					}
				}
			}
		}
	}
}

// great is an image that makes a chain of lists, some 950,000 cells in its first 235 events, and uses them all to its end.
func great() *code.Image {
	const slotChain, slotLeft = 0, 1
	const constChains, constOne, constNone = 0, 1, 2
	l := []code.Instr{{Op: code.Push, A: constChains}, {Op: code.Store, A: slotLeft}}
	for range 80 {
		l = append(l, code.Instr{Op: code.Load, A: slotChain})
		for range api.MaxList - 1 {
			l = append(l, code.Instr{Op: code.Nil})
		}
		l = append(l, code.Instr{Op: code.List, A: api.MaxList}, code.Instr{Op: code.Store, A: slotChain})
	}
	l = append(l, code.Instr{Op: code.Load, A: slotLeft}, code.Instr{Op: code.Push, A: constOne}, code.Instr{Op: code.Sub}, code.Instr{Op: code.Store, A: slotLeft}, code.Instr{Op: code.Stop, A: 1})
	l = append(l, code.Instr{Op: code.Load, A: slotLeft}, code.Instr{Op: code.Push, A: constNone}, code.Instr{Op: code.Same}, code.Instr{Op: code.Unless, A: 2})
	l = append(l, code.Instr{Op: code.Stop, A: 2}, code.Instr{Op: code.Load, A: slotChain}, code.Instr{Op: code.Print}, code.Instr{Op: code.Jump, A: len(l)})
	return &code.Image{
		Consts: []code.Const{{N: 235}, {N: 1}, {N: 0}},
		Funcs:  []code.Func{{Name: "main", Slots: 2, Code: l}},
	}
}

// P1: even if a great heap is to be kept behind each event, Record comes to its end, with what memory there is.
func TestGreatHeap(t *testing.T) {
	u := run{great(), vm.Config{Nursery: 65_536, Old: 1_048_576}, nil}
	r := u.recorded(t, 1)
	if x := at(t, r, api.MaxEvents); cells(x) < 900_000 || r.Full() || len(r.events) != api.MaxEvents {
		t.Fatalf("%d cells, %d events, full %v", cells(x), len(r.events), r.Full())
	}
	wantShelf(t, "great", r)
	seldom := u.recorded(t, api.MaxEvents)
	if !slices.Equal(r.Events(), seldom.Events()) {
		t.Error("there are other events")
	}
	for _, n := range []int{0, 100, 236, 1000} {
		x, y := at(t, r, n), at(t, seldom, n)
		if x.Heap().Last() != y.Heap().Last() || !slices.Equal(x.Heap().Ids(), y.Heap().Ids()) {
			t.Errorf("behind %d events: identities up to %d and %d", n, x.Heap().Last(), y.Heap().Last())
		}
		if !slices.Equal(rest(x), rest(y)) {
			t.Errorf("behind %d events they go other ways", n)
		}
	}
}
