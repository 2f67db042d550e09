package heap

import (
	"slices"

	"rewind/api"
)

// A model does by the document's words what a heap does: its objects don't move, and lead to each other by pointers.
type model struct {
	nursery, old         int
	last, minors, majors int
	things               []*thing
}

// thing is an object of a model.
type thing struct {
	kind, tag, id int
	old           bool
	fields        []lead
}

// lead is a value, and what it leads to, if anything.
type lead struct {
	v  Value
	to *thing
}

func (m *model) use() (young, old int) {
	for _, x := range m.things {
		if x.old {
			old += 1 + len(x.fields)
		} else {
			young += 1 + len(x.fields)
		}
	}
	return young, old
}

func (m *model) ids() []int {
	var l []int
	for _, x := range m.things {
		if x.id > 0 {
			l = append(l, x.id)
		}
	}
	slices.Sort(l)
	return l
}

func (m *model) alloc(kind, tag, size int) (*thing, api.Errno) {
	if kind < 1 || kind > 4 || size < 0 || size > 1000 {
		return nil, api.ErrArg
	}
	if young, _ := m.use(); m.nursery-young < 1+size {
		return nil, api.ErrFull
	}
	x := &thing{kind: kind, tag: tag, fields: make([]lead, size)}
	if kind != 4 {
		m.last++
		x.id = m.last
	}
	m.things = append(m.things, x)
	return x, api.OK
}

func (m *model) set(x *thing, i int, v lead) api.Errno {
	switch {
	case x == nil:
		return api.ErrMissing
	case i < 0 || i >= len(x.fields):
		return api.ErrRange
	case v.v.Kind == Ref && v.to == nil:
		return api.ErrMissing
	}
	x.fields[i] = v
	return api.OK
}

// reached is all that some things lead to, they themselves, too.
func reached(from []*thing) map[*thing]bool {
	seen := map[*thing]bool{}
	for len(from) > 0 {
		x := from[0]
		from = from[1:]
		if x == nil || seen[x] {
			continue
		}
		seen[x] = true
		for _, f := range x.fields {
			from = append(from, f.to)
		}
	}
	return seen
}

func (m *model) minor(roots []*thing) api.Errno {
	if young, old := m.use(); young+old > m.old {
		return api.ErrFull
	}
	for _, x := range m.things {
		if x.old {
			roots = append(roots, x)
		}
	}
	m.keep(reached(roots))
	m.minors++
	return api.OK
}

func (m *model) major(roots []*thing) api.Errno {
	stay := reached(roots)
	cells := 0
	for x := range stay {
		cells += 1 + len(x.fields)
	}
	if cells > m.old {
		return api.ErrFull
	}
	m.keep(stay)
	m.majors++
	return api.OK
}

func (m *model) keep(stay map[*thing]bool) {
	m.things = slices.DeleteFunc(m.things, func(x *thing) bool { return !stay[x] })
	for _, x := range m.things {
		x.old = true
	}
}

// copied is a model of its own, and what leads its things have there.
func (m *model) copied(held []lead) (*model, []lead) {
	c := *m
	c.things = nil
	twin := map[*thing]*thing{nil: nil}
	for _, x := range m.things {
		y := *x
		twin[x] = &y
		c.things = append(c.things, &y)
	}
	turned := func(l []lead) []lead {
		var out []lead
		for _, f := range l {
			out = append(out, lead{f.v, twin[f.to]})
		}
		return out
	}
	for _, y := range c.things {
		y.fields = turned(y.fields)
	}
	return &c, turned(held)
}
