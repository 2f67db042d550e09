package heap

import "rewind/api"

// leaving is a part whose objects go to another one. What it has stays untouched, so that nothing is changed if they have no room there.
type leaving struct {
	*part
	went []int // of each object, its new address; 0: it did not go
}

func leave(p *part) *leaving { return &leaving{p, make([]int, len(p.objects))} }

// mover takes objects into a part.
type mover struct {
	to     *part
	leaves func(a int) (*leaving, int) // what the object at an address leaves, and its number there; nil: it stays, or there is none
}

func newMover(to *part, from ...*leaving) *mover {
	return &mover{to: to, leaves: func(a int) (*leaving, int) {
		for _, l := range from {
			if i, ok := l.number(a); ok {
				return l, i
			}
		}
		return nil, 0
	}}
}

// moved is a value that leads to where its object is now; the object goes, if it has not yet.
func (m *mover) moved(v Value) Value {
	if v.Kind != Ref {
		return v
	}
	l, i := m.leaves(v.N)
	if l == nil {
		return v
	}
	if l.went[i] == 0 {
		l.went[i] = m.to.add(l.objects[i], l.has(i))
	}
	v.N = l.went[i]
	return v
}

// roots takes what they lead to; they are not changed yet.
func (m *mover) roots(roots []*Value) {
	for _, r := range roots {
		if r != nil {
			m.moved(*r)
		}
	}
}

// field takes what a field of the part leads to. The part's list may be another one behind the move, so it is asked for again.
func (m *mover) field(i int) {
	v := m.moved(m.to.fields[i])
	m.to.fields[i] = v
}

// rest takes all that fields of the part lead to, from one of them on: those that come in meanwhile, too.
func (m *mover) rest(i int) {
	for ; i < len(m.to.fields); i++ {
		m.field(i)
	}
}

// Minor moves all of the nursery that roots, and old objects, lead to into the old part; roots are changed. ErrFull: the cells that are in use in both are more than the old part has (nothing is moved then).
func (h *Heap) Minor(roots []*Value) (_ error) {
	if h == nil {
		return nil
	}
	if h.young.cells()+h.old.cells() > h.oldRoom {
		return api.ErrFull
	}
	young := leave(&h.young)
	m := newMover(&h.old, young)
	from := len(h.old.fields)
	for _, number := range h.noted {
		h.old.objects[number].noted = false
		o := h.old.objects[number]
		for i := range o.size {
			m.field(o.begin + i)
		}
	}
	m.roots(roots)
	m.rest(from)
	h.settle(m, roots, young)
	h.minors++
	return nil
}

// Major moves all that roots lead to into an old part of its own; roots are changed, each once. ErrFull: that has more cells than the old part (nothing is moved then).
func (h *Heap) Major(roots []*Value) (_ error) {
	if h == nil {
		return nil
	}
	young, old, to := leave(&h.young), leave(&h.old), h.old.next()
	m := newMover(&to, young, old)
	m.roots(roots)
	m.rest(0)
	if to.cells() > h.oldRoom {
		return api.ErrFull
	}
	h.settle(m, roots, young, old)
	h.old = to
	h.majors++
	return nil
}

// settle changes roots, and notes where the objects of identities are now. A root that stands there twice is changed once: its new address is none of those that were left.
func (h *Heap) settle(m *mover, roots []*Value, from ...*leaving) {
	for _, r := range roots {
		if r != nil {
			*r = m.moved(*r)
		}
	}
	for _, l := range from {
		for i, o := range l.objects {
			if l.went[i] == 0 {
				delete(h.ids, o.id)
			} else if o.id > 0 {
				h.ids[o.id] = l.went[i]
			}
		}
	}
	h.young, h.noted = h.young.next(), nil
}
