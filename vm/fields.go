package vm

import (
	"slices"

	"rewind/code"
	"rewind/heap"
)

// spot is a field of an object.
type spot struct {
	object heap.Value
	at     int
}

// get is what lies at a spot that is there.
func (m *Machine) get(s spot) heap.Value {
	v, _ := m.heap.Get(s.object.N, s.at)
	return v
}

func (m *Machine) set(s spot, v heap.Value) {
	m.heap.Set(s.object.N, s.at, v)
}

// reach gets what lies at a spot, or sets it.
func (m *Machine) reach(f *Frame, i code.Instr) error {
	var v heap.Value
	sets := false
	switch i.Op {
	case code.StoreBox, code.StoreCap, code.SetElem, code.SetGet:
		sets = true
		v = f.pop()
	}
	s, err := m.find(f, i)
	if err != nil {
		return err
	}
	if sets {
		m.set(s, v)
	} else {
		f.push(m.get(s))
	}
	return nil
}

// find is the spot that an instruction means.
func (m *Machine) find(f *Frame, i code.Instr) (spot, error) {
	switch i.Op {
	case code.LoadBox, code.StoreBox:
		return m.within(f.Slots[i.A], heap.Box, 0)
	case code.Cap:
		return m.held(f, i)
	case code.LoadCap, code.StoreCap:
		s, err := m.held(f, i)
		if err != nil {
			return spot{}, err
		}
		return m.within(m.get(s), heap.Box, 0)
	case code.Elem, code.SetElem:
		l := f.take(2)
		return m.element(l[0], l[1])
	}
	return m.member(f.pop(), m.image.Consts[i.A].S)
}

// within is a field of an object of a kind; throws type, unless there is one.
func (m *Machine) within(v heap.Value, kind, at int) (spot, error) {
	if !m.is(v, kind) || at < 0 || at >= m.heap.Size(v.N) {
		return spot{}, throws(wordType)
	}
	return spot{v, at}, nil
}

// held is where what the closure holds lies: in it, or in a pack that it holds.
func (m *Machine) held(f *Frame, i code.Instr) (spot, error) {
	s, err := m.within(f.Holds, heap.Closure, i.A)
	if err != nil || i.B <= 0 {
		return s, err
	}
	return m.within(m.get(s), heap.Box, i.B-1)
}

func (m *Machine) element(list, at heap.Value) (spot, error) {
	if !m.is(list, heap.Array) || at.Kind != heap.Int {
		return spot{}, throws(wordType)
	}
	if at.N < 0 || at.N >= m.heap.Size(list.N) {
		return spot{}, throws(wordIndex)
	}
	return spot{list, at.N}, nil
}

// member is where an instance's field of a name lies.
func (m *Machine) member(v heap.Value, name string) (spot, error) {
	if !m.is(v, heap.Instance) {
		return spot{}, throws(wordType)
	}
	fields := m.image.Classes[m.heap.Tag(v.N)].Fields
	at, ok := named(name)(fields)
	if !ok {
		return spot{}, throws(wordName)
	}
	if len(fields) <= maxWhole {
		return spot{v, at}, nil
	}
	box := m.get(spot{v, at / maxWhole})
	return spot{box, at % maxWhole}, nil
}

// named makes what looks for a name's number among others.
func named(name string) func(names []string) (number int, ok bool) {
	return func(names []string) (int, bool) {
		number := slices.Index(names, name)
		return number, number >= 0
	}
}
