package vm

import (
	"strconv"
	"testing"

	"rewind/heap"
)

// 6.2, 4.3: Show tells what print does; what no program could print is shown as nothing.
func TestShow(t *testing.T) {
	x := doing(t, "class A {} class list {} var a = 1; [new A(), [], fn() { return a; }, new list()];", roomy())
	rest(x)
	h := x.Heap()
	for want, v := range map[string]heap.Value{
		"nil":                  {},
		"true":                 {Kind: heap.Bool, N: 1},
		"false":                {Kind: heap.Bool, N: 0},
		"0":                    {Kind: heap.Int},
		"-1":                   {Kind: heap.Int, N: -1},
		"9223372036854775807":  {Kind: heap.Int, N: greatest},
		"-9223372036854775808": {Kind: heap.Int, N: least},
		"a\n\"b\\\x00\xff":     {Kind: heap.Text, S: "a\n\"b\\\x00\xff"},
	} {
		if got := x.Show(v); got != want {
			t.Errorf("%v: %q, want %q", v, got, want)
		}
	}
	for id, want := range map[int]string{1: "A#1", 2: "list#2", 3: "fn#3", 4: "list#4", 5: "list#5"} {
		at, _ := h.At(id)
		if got := x.Show(ref(at)); got != want {
			t.Errorf("identity %d: %q, want %q", id, got, want)
		}
	}
	closure, _ := h.At(3)
	box, _ := h.Get(closure, 0)
	for what, v := range map[string]heap.Value{
		"no text":          {Kind: heap.Text},
		"a box":            box,
		"leads nowhere":    ref(0),
		"before all":       ref(least),
		"behind all":       ref(greatest),
		"no kind of value": {Kind: 77, N: 1, S: "s"},
		"a kind below":     {Kind: -1, N: 1, S: "s"},
	} {
		if got := x.Show(v); got != "" {
			t.Errorf("%s: %q", what, got)
		}
	}
	// What others put into the heap makes no machine panic.
	for i, class := range []int{-1, 2, least, greatest} {
		alien, _ := h.Alloc(heap.Instance, class, 0)
		if got, want := x.Show(ref(alien)), "#"+strconv.Itoa(6+i); got != want {
			t.Errorf("an instance of class %d: %q, want %q", class, got, want)
		}
	}
}

// 6.2: what a value's kind does not name makes no difference.
func TestShowNoMore(t *testing.T) {
	x := doing(t, "", roomy())
	for want, v := range map[string]heap.Value{
		"nil":  {Kind: heap.Nil, N: 5, S: "s"},
		"true": {Kind: heap.Bool, N: 1, S: "s"},
		"5":    {Kind: heap.Int, N: 5, S: "s"},
		"s":    {Kind: heap.Text, N: 5, S: "s"},
	} {
		if got := x.Show(v); got != want {
			t.Errorf("%v: %q, want %q", v, got, want)
		}
	}
}
