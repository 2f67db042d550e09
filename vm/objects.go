package vm

import (
	"rewind/api"
	"rewind/code"
	"rewind/heap"
)

// maxWhole is how many fields an object has at most: it has room in a nursery of 60 cells then. (An instance of more has them in boxes.)
const maxWhole = 59

// is: does a value lead to an object of a kind?
func (m *Machine) is(v heap.Value, kind int) bool {
	return v.Kind == heap.Ref && m.heap.Kind(v.N) == kind
}

// roots are the values by which objects are reached: all that is in use must lie in frames when one is made.
func (m *Machine) roots() (l []*heap.Value) {
	add := func(v *heap.Value) {
		if v.Kind == heap.Ref {
			l = append(l, v)
		}
	}
	for _, f := range m.frames {
		for i := range f.Slots {
			add(&f.Slots[i])
		}
		for i := range f.Stack {
			add(&f.Stack[i])
		}
		add(&f.Holds)
		add(&f.Makes)
	}
	return l
}

// collectBy does what a number of Collect asks for. If that has no room, nothing is changed, and all goes on: there may be room yet for what is made next.
func (m *Machine) collectBy(number int) {
	switch number {
	case collectMinor:
		m.heap.Minor(m.roots())
	case collectMajor:
		m.heap.Major(m.roots())
	}
}

// makeRoom empties the nursery, if that can be.
func (m *Machine) makeRoom() {
	roots := m.roots()
	if m.heap.Minor(roots) != nil {
		m.heap.Major(roots)
	}
}

// alloc is a new object, which may move all others. An error: there is no room.
func (m *Machine) alloc(kind, tag, size int) (heap.Value, error) {
	at, err := m.heap.Alloc(kind, tag, size)
	if err != nil {
		m.makeRoom()
		at, err = m.heap.Alloc(kind, tag, size)
	}
	if err != nil {
		return heap.Value{}, err
	}
	return heap.Value{Kind: heap.Ref, N: at}, nil
}

// gather makes the last values on the stack one object, which has them.
func (m *Machine) gather(f *Frame, kind, tag, many int) error {
	v, err := m.alloc(kind, tag, many)
	if err != nil {
		return err
	}
	for i, field := range f.take(many) {
		m.set(spot{v, i}, field)
	}
	f.push(v)
	return nil
}

func (m *Machine) create(f *Frame, i code.Instr) error {
	switch {
	case i.Op == code.Closure:
		return m.gather(f, heap.Closure, i.A, i.B)
	case i.Op == code.List && i.B == code.Packed:
		return m.gather(f, heap.Box, 0, i.A)
	case i.Op == code.List:
		return m.gather(f, heap.Array, 0, i.A)
	}
	if err := m.gather(f, heap.Box, 0, 1); err != nil {
		return err
	}
	f.Slots[i.A] = f.pop()
	return nil
}

// join is a new list of what the two lists on the stack have.
func (m *Machine) join(f *Frame) (heap.Value, error) {
	size := 0
	for _, list := range f.last(2) {
		size += m.heap.Size(list.N)
	}
	if size > api.MaxList {
		return heap.Value{}, throws(wordSize)
	}
	v, err := m.alloc(heap.Array, 0, size)
	if err != nil {
		return heap.Value{}, err
	}
	to := 0
	for _, list := range f.last(2) {
		for from := range m.heap.Size(list.N) {
			m.set(spot{v, to}, m.get(spot{list, from}))
			to++
		}
	}
	return v, nil
}

// instance is a new one, its fields nil.
func (m *Machine) instance(f *Frame, class int) (heap.Value, error) {
	fields := len(m.image.Classes[class].Fields)
	if fields <= maxWhole {
		return m.alloc(heap.Instance, class, fields)
	}
	boxes := 0
	for ; fields > 0; fields -= maxWhole {
		box, err := m.alloc(heap.Box, 0, min(fields, maxWhole))
		if err != nil {
			return heap.Value{}, err
		}
		f.push(box)
		boxes++
	}
	if err := m.gather(f, heap.Instance, class, boxes); err != nil {
		return heap.Value{}, err
	}
	return f.pop(), nil
}
