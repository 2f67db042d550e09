package heap

import "slices"

// Addresses of the nursery are odd, those of the old part even, and none is given twice: so one that is out of date leads to nothing, not to another object.
const (
	firstYoung = 1
	firstOld   = 2
	step       = 2
)

// object is one; its fields lie in its part.
type object struct {
	kind, tag, id int
	begin, size   int
	noted         bool // an old one: it is in the heap's list
}

// part is the nursery, or the old part. An object's number is how many lie ahead of it.
type part struct {
	first   int // the address of the first object
	objects []object
	fields  []Value // of all objects, one object's behind the other's
}

// cells is how many are in use.
func (p *part) cells() int { return len(p.objects) + len(p.fields) }

// address is where an object lies.
func (p *part) address(number int) int { return p.first + step*number }

// number is that of the object at an address; false: there is none.
func (p *part) number(a int) (int, bool) {
	way := a - p.first
	return way / step, way >= 0 && way%step == 0 && way/step < len(p.objects)
}

// add lays an object behind the others; it is its address.
func (p *part) add(o object, fields []Value) int {
	o.begin, o.noted = len(p.fields), false
	p.objects = append(p.objects, o)
	p.fields = append(p.fields, fields...)
	return p.address(len(p.objects) - 1)
}

// has is the fields of an object.
func (p *part) has(number int) []Value {
	o := p.objects[number]
	return p.fields[o.begin : o.begin+o.size]
}

// next is an empty part whose addresses begin behind those of this one.
func (p *part) next() part { return part{first: p.address(len(p.objects))} }

func (p *part) copied() part {
	return part{first: p.first, objects: slices.Clone(p.objects), fields: slices.Clone(p.fields)}
}
