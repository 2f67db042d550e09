package inspect

import (
	"strconv"

	"rewind/heap"
)

// reached are the objects to which the variables lead, by their identities.
func (v view) reached() map[int]Object {
	found := map[int]Object{}
	// ahead are the parts that were not gone along yet: objects may lie within each other too deep for calls.
	var ahead []part
	note := func(is heap.Value) {
		id, ok := v.identity(is)
		if _, twice := found[id]; !ok || twice {
			return
		}
		has := v.has(is)
		found[id] = Object{Id: id, Is: v.machine.Show(is), Has: v.shown(has)}
		ahead = append(ahead, has...)
	}
	for _, f := range v.frames {
		ahead = append(ahead, v.variables(f)...)
	}
	for len(ahead) > 0 {
		last := len(ahead) - 1
		is := ahead[last].is
		ahead = ahead[:last]
		note(is)
	}
	return found
}

// identity is that of the object to which a value leads; false: it leads to none that has one.
func (v view) identity(is heap.Value) (id int, ok bool) {
	if is.Kind != heap.Ref {
		return 0, false
	}
	id = v.heap.Id(is.N)
	return id, id > 0
}

// has are an instance's fields, or a list's elements. A function leads nowhere, whatever it holds.
func (v view) has(is heap.Value) []part {
	switch v.kind(is) {
	case heap.Instance:
		return v.fields(is.N)
	case heap.Array:
		return v.elements(is.N)
	}
	return nil
}

func (v view) elements(at int) (l []part) {
	for i, is := range v.values(at) {
		l = append(l, part{strconv.Itoa(i), is})
	}
	return l
}

func (v view) fields(at int) (l []part) {
	values := v.unpacked(at)
	for i, name := range v.names(at) {
		if i < len(values) {
			l = append(l, part{name, values[i]})
		}
	}
	return l
}

// names are those of an instance's fields. (Others may have put one of no class into the heap.)
func (v view) names(at int) []string {
	class := v.heap.Tag(at)
	if class < 0 || class >= len(v.image.Classes) {
		return nil
	}
	return v.image.Classes[class].Fields
}

// unpacked are the values of an instance's fields: one of many fields has them in boxes, which are no values of a program.
func (v view) unpacked(at int) (l []heap.Value) {
	for _, is := range v.values(at) {
		if v.kind(is) == heap.Box {
			l = append(l, v.values(is.N)...)
		} else {
			l = append(l, is)
		}
	}
	return l
}
