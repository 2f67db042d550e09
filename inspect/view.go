package inspect

import (
	"rewind/code"
	"rewind/heap"
	"rewind/vm"
)

// view is a machine that is looked at. It has no frames, if the machine is over.
type view struct {
	machine *vm.Machine
	image   *code.Image
	heap    *heap.Heap
	frames  []vm.Frame
}

// part is a value that has a name: a variable, a field, or an element.
type part struct {
	name string
	is   heap.Value
}

func viewOf(m *vm.Machine) view {
	if m.Ended() {
		return view{machine: m}
	}
	return view{machine: m, image: m.Image(), heap: m.Heap(), frames: m.State().Frames}
}

// kind is that of the object to which a value leads; 0: it leads to none.
func (v view) kind(is heap.Value) int {
	if is.Kind != heap.Ref {
		return 0
	}
	return v.heap.Kind(is.N)
}

// values are what an object has, in its order.
func (v view) values(at int) (l []heap.Value) {
	for i := range v.heap.Size(at) {
		is, _ := v.heap.Get(at, i)
		l = append(l, is)
	}
	return l
}

func (v view) function(f vm.Frame) code.Func { return v.image.Funcs[f.Func] }

// variables are those of a function that are there, in the order of the text: Vars stand in that order.
func (v view) variables(f vm.Frame) (l []part) {
	for _, d := range v.function(f).Vars {
		if d.From <= f.At && f.At <= d.To {
			l = append(l, part{d.Name, v.variable(d, f.Slots[d.Slot])})
		}
	}
	return l
}

// variable is what one is whose slot that is: what functions share lies in a box.
func (v view) variable(d code.Var, slot heap.Value) heap.Value {
	if !d.Boxed {
		return slot
	}
	is, _ := v.heap.Get(slot.N, 0)
	return is
}

// shown are parts as they are told.
func (v view) shown(parts []part) (l []Var) {
	for _, p := range parts {
		l = append(l, Var{Name: p.name, Is: v.machine.Show(p.is)})
	}
	return l
}
