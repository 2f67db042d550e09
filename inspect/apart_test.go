package inspect

import (
	"fmt"
	"reflect"
	"slices"
	"sync"
	"testing"

	"rewind/api"
	"rewind/code"
	"rewind/heap"
	"rewind/replay"
	"rewind/vm"
)

// whole is all that can be asked of a machine, where its objects lie, too.
func whole(x *vm.Machine) string {
	h := x.Heap()
	nursery, old, minors, majors := h.Use()
	s := fmt.Sprintf("%+v %v %v %d %d %d %d %d\n", x.State(), x.Ended(), x.Full(), x.Count(), nursery, old, minors, majors)
	for _, id := range h.Ids() {
		a, _ := h.At(id)
		s += fmt.Sprint(id, a, h.Kind(a), h.Tag(a), h.Size(a))
		for i := range h.Size(a) {
			v, _ := h.Get(a, i)
			s += fmt.Sprint(v)
		}
	}
	return s
}

// Frames and Objects change nothing of a machine: it goes on as one that was never asked.
func TestNothingChanges(t *testing.T) {
	for _, text := range []string{several, small, manyFields(130), "throw [1];", ""} {
		for _, c := range []vm.Config{roomy(), tight(1), tight(0, 2), {Nursery: 30, Old: 100, Collect: []int{1, 0}}} {
			image := compiled(t, text)
			asked, other := started(t, image, c), started(t, image, c)
			for ok := true; ok; {
				was := whole(other)
				framesOf(t, asked)
				objectsOf(t, asked)
				if got := whole(asked); got != was {
					t.Fatalf("%.300s\nin %v, behind %d events:\n%s\nwant\n%s", text, c, other.Count(), got, was)
				}
				if !reflect.DeepEqual(asked.Image(), image) {
					t.Fatalf("%.300s\nanother image", text)
				}
				var e, want api.Event
				e, _ = asked.Next()
				want, ok = other.Next()
				if e != want {
					t.Fatalf("%.300s\nin %v: it goes on by %s, want %s", text, c, event(e), event(want))
				}
			}
			if whole(asked) != whole(other) {
				t.Errorf("%.300s\nin %v: at the end\n%s\nwant\n%s", text, c, whole(asked), whole(other))
			}
		}
	}
}

// P4: the same answer twice; of answers, and lists of one answer, none shares memory with another one, or with the machine.
func TestFresh(t *testing.T) {
	x := started(t, compiled(t, several), tight(1))
	for !x.Ended() {
		f, _ := Frames(x)
		o, _ := Objects(x)
		again, _ := Frames(x)
		others, _ := Objects(x)
		if !reflect.DeepEqual(f, again) || !reflect.DeepEqual(o, others) {
			t.Fatalf("%+v, %+v, then %+v, %+v", f, o, again, others)
		}
		for i := range f {
			_ = append(f[i].Vars, Var{"more", "more"})
		}
		for i := range o {
			_ = append(o[i].Has, Var{"more", "more"})
		}
		_, _ = append(f, Frame{}), append(o, Object{})
		if !reflect.DeepEqual(f, again) || !reflect.DeepEqual(o, others) {
			t.Fatalf("two lists share memory: %+v, %+v", f, o)
		}
		for i := range f {
			clear(f[i].Vars)
			f[i] = again[i]
		}
		for i := range o {
			clear(o[i].Has)
			o[i] = others[i]
		}
		last, _ := Frames(x)
		lastObjects, _ := Objects(x)
		if !reflect.DeepEqual(last, again) || !reflect.DeepEqual(lastObjects, others) {
			t.Fatalf("what the caller has is seen: %+v, %+v", last, lastObjects)
		}
		x.Next()
	}
}

// 7.1, 8.1, 8.2: machines that a Recording's At gave have the same as one that ran there without stopping, in any order, and whatever every is.
func TestOfRecordings(t *testing.T) {
	for _, text := range []string{several, small, manyFields(70), "var a = [1];\nfn f(x) { throw [x]; }\nf(a);", ""} {
		for _, c := range []vm.Config{roomy(), tight(1), {Nursery: 59, Old: 200, Collect: []int{0, 1}}} {
			image := compiled(t, text)
			want := sights(t, started(t, image, c))
			for _, every := range []int{1, 3, 10, api.MaxEvents} {
				r, err := replay.Record(image, c, nil, every)
				if err != nil {
					t.Fatalf("no recording: %v", err)
				}
				for n := range slices.Backward(want) {
					x, err := r.At(n)
					if err != nil {
						t.Fatalf("no machine behind %d events: %v", n, err)
					}
					if got := (sight{want[n].event, framesOf(t, x), objectsOf(t, x)}); got != want[n] {
						t.Fatalf("%.300s\nin %v, every %d, behind %d events:\n%+v, want\n%+v", text, c, every, n, got, want[n])
					}
				}
			}
		}
	}
}

// A machine's copy has the same, and each goes its own way.
func TestOfCopies(t *testing.T) {
	x := started(t, compiled(t, several), tight(1, 0))
	for n := 0; !x.Ended(); n++ {
		y := x.Copy()
		f, o := framesOf(t, x), objectsOf(t, x)
		if framesOf(t, y) != f || objectsOf(t, y) != o {
			t.Fatalf("behind %d events: the copy has %s, %s", n, framesOf(t, y), objectsOf(t, y))
		}
		sights(t, y)
		if framesOf(t, x) != f || objectsOf(t, x) != o {
			t.Fatalf("behind %d events: the copy's way is seen", n)
		}
		x.Next()
	}
}

// P4: what is asked of machines at the same time hangs on each alone.
func TestAtTheSameTime(t *testing.T) {
	image := compiled(t, several)
	want := sights(t, started(t, image, tight(1)))
	first := started(t, image, tight(1))
	var wait sync.WaitGroup
	for range 8 {
		x := first.Copy()
		wait.Go(func() {
			if !slices.Equal(sights(t, x), want) {
				t.Error("another answer")
			}
		})
	}
	wait.Wait()
}

// P1: whatever an image does that Compile did not make, none of the calls panics, and each ends: a box that holds itself, boxes where none should be, and variables that are not what they are told to be.
func TestAnyImage(t *testing.T) {
	i := func(op int, names ...int) code.Instr {
		var ab [2]int
		copy(ab[:], names)
		return code.Instr{Op: op, A: ab[0], B: ab[1]}
	}
	many := make([]string, 70)
	image := &code.Image{
		Consts:  []code.Const{{N: 7}, {Text: true, S: "p"}},
		Classes: []code.Class{{Name: "A", Above: -1, Fields: []string{"p"}}, {Name: "B", Above: -1, Fields: many}},
		Funcs: []code.Func{{
			Slots: 6,
			Code: []code.Instr{
				i(code.Stop, 1),
				i(code.Nil), i(code.Box, 0), i(code.Load, 0), i(code.StoreBox, 0), // holds itself
				i(code.Push, 0), i(code.Store, 1),
				i(code.Load, 0), i(code.Load, 0), i(code.List, 2), i(code.Store, 2),
				i(code.New, 0), i(code.Store, 3), i(code.Load, 3), i(code.Load, 0), i(code.SetGet, 1),
				i(code.New, 1), i(code.Store, 4),
				i(code.List, 0, code.Packed), i(code.Store, 5),
				i(code.Stop, 2),
				i(code.Nil), i(code.Return),
			},
		}},
	}
	for slot := range 6 {
		for _, boxed := range []bool{false, true} {
			image.Funcs[0].Vars = append(image.Funcs[0].Vars, code.Var{Name: "v", Slot: slot, To: 23, Boxed: boxed})
		}
	}
	for _, c := range []vm.Config{roomy(2), tight(1), {Nursery: 5, Old: 5}} {
		x := started(t, image, c)
		for ok := true; ok; _, ok = x.Next() {
			f, err := Frames(x)
			if err != nil || !x.Ended() && (len(f) != 1 || len(f[0].Vars) != 12) {
				t.Errorf("in %v: %+v, error %v", c, f, err)
			}
			if _, err := Objects(x); err != nil {
				t.Errorf("in %v: error %v", c, err)
			}
		}
	}
}

// P1: what others put into a machine's heap, of which its image knows nothing, is told somehow.
func TestAnyHeap(t *testing.T) {
	for _, tag := range []int{-1, 0, 1, 1 << 40} {
		for _, size := range []int{0, 1, 3, 100} {
			x := started(t, compiled(t, "class A { field p; }\nvar a = [1];\nprint(a);"), roomy())
			for range 3 {
				x.Next()
			}
			h := x.Heap()
			list, _ := h.At(1)
			for _, kind := range []int{heap.Instance, heap.Array, heap.Closure, heap.Box} {
				a, err := h.Alloc(kind, tag, size)
				if err != nil {
					t.Fatal(err)
				}
				h.Set(list, 0, heap.Value{Kind: heap.Ref, N: a})
				if l, err := Objects(x); err != nil || len(l) == 0 || l[0].Id != 1 {
					t.Errorf("kind %d, tag %d, size %d: %+v, error %v", kind, tag, size, l, err)
				}
			}
		}
	}
}
