package heap

import "rewind/api"

// Get is a field. ErrMissing: no such object; ErrRange: no such field.
func (h *Heap) Get(a, i int) (_ Value, _ error) {
	p, number := h.find(a)
	if p == nil {
		return Value{}, api.ErrMissing
	}
	l := p.has(number)
	if i < 0 || i >= len(l) {
		return Value{}, api.ErrRange
	}
	return l[i], nil
}

// Set sets a field; an old object that is given something of the nursery is noted. Errors as of Get; ErrMissing, too, if the value is a Ref to no object.
func (h *Heap) Set(a, i int, v Value) (_ error) {
	if _, err := h.Get(a, i); err != nil {
		return err
	}
	if v.Kind == Ref && h.Kind(v.N) == 0 {
		return api.ErrMissing
	}
	p, number := h.find(a)
	p.has(number)[i] = v
	if p == &h.old && v.Kind == Ref {
		h.note(number, v.N)
	}
	return nil
}

// note puts an old object into the list, once, if what it was given lies in the nursery.
func (h *Heap) note(number, given int) {
	o := &h.old.objects[number]
	if _, ok := h.young.number(given); ok && !o.noted {
		o.noted = true
		h.noted = append(h.noted, number)
	}
}
