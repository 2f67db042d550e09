package compile

import (
	"fmt"
	"strconv"

	"rewind/api"
)

// value is one of a run's: nil, a bool, an int, a string, or an *object.
type value any

// object is an instance, a list, or a function, with its identity.
type object struct {
	kind, id int
	// name is that of an instance's class; which: the number of a function's Lambda.
	name  string
	which int
	// has are fields, or elements.
	has []value
}

const (
	isInstance = iota
	isList
	isFn
)

// thrown is a value that is on its way to who catches it.
type thrown struct{ value value }

// throw throws a word.
func throw(word string) { panic(thrown{word}) }

// tooMany ends a run behind MaxEvents events.
type tooMany struct{}

// tape has the events of a run, and gives objects their identities.
type tape struct {
	events []api.Event
	last   int
	inputs []int
}

func (t *tape) tell(e api.Event) {
	t.events = append(t.events, e)
	if len(t.events) == api.MaxEvents {
		panic(tooMany{})
	}
}

// object gives a new one its identity.
func (t *tape) object(o object) *object {
	t.last++
	o.id = t.last
	return &o
}

func (t *tape) list(has []value) *object {
	return t.object(object{kind: isList, name: "list", has: has})
}

func (t *tape) input() value {
	if len(t.inputs) == 0 {
		return nil
	}
	first := t.inputs[0]
	t.inputs = t.inputs[1:]
	return first
}

// show: 4.3.
func show(v value) string {
	switch v := v.(type) {
	case nil:
		return "nil"
	case bool:
		return strconv.FormatBool(v)
	case int:
		return strconv.Itoa(v)
	case string:
		return v
	case *object:
		return fmt.Sprint(v.name, "#", v.id)
	}
	panic("no value")
}

func truth(v value) bool {
	b, ok := v.(bool)
	if !ok {
		throw("type")
	}
	return b
}

// two is what a node of two values makes of them: 4.5.
func (t *tape) two(kind int, a, b value) value {
	switch kind {
	case api.Same:
		return a == b
	case api.Elem:
		l, at := element(a, b)
		return l.has[at]
	}
	switch a := a.(type) {
	case int:
		if b, ok := b.(int); ok {
			return numbers(kind, a, b)
		}
	case string:
		if b, ok := b.(string); ok && kind == api.Less {
			return a < b
		} else if ok && kind == api.Add {
			if len(a)+len(b) > api.MaxString {
				throw("size")
			}
			return a + b
		}
	case *object:
		if b, ok := b.(*object); ok && kind == api.Add && a.kind == isList && b.kind == isList {
			if len(a.has)+len(b.has) > api.MaxList {
				throw("size")
			}
			return t.list(append(append([]value{}, a.has...), b.has...))
		}
	}
	throw("type")
	return nil
}

func numbers(kind, a, b int) value {
	switch kind {
	case api.Less:
		return a < b
	case api.Add:
		return a + b
	case api.Sub:
		return a - b
	case api.Mul:
		return a * b
	}
	if b == 0 {
		throw("zero")
	}
	if kind == api.Div {
		return a / b
	}
	return a % b
}

// one is what Not, Neg or Len makes of a value.
func one(kind int, v value) value {
	switch kind {
	case api.Not:
		return !truth(v)
	case api.Neg:
		if n, ok := v.(int); ok {
			return -n
		}
	case api.Len:
		if s, ok := v.(string); ok {
			return len(s)
		}
		if o, ok := v.(*object); ok && o.kind == isList {
			return len(o.has)
		}
	}
	throw("type")
	return nil
}

// element is a list, and which one of its elements a number means.
func element(list, number value) (*object, int) {
	l, ok := list.(*object)
	at, isNumber := number.(int)
	if !ok || l.kind != isList || !isNumber {
		throw("type")
	}
	if at < 0 || at >= len(l.has) {
		throw("index")
	}
	return l, at
}

// instance is an object that has a class.
func instance(v value) *object {
	o, ok := v.(*object)
	if !ok || o.kind != isInstance {
		throw("type")
	}
	return o
}
