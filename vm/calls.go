package vm

import (
	"rewind/api"
	"rewind/code"
	"rewind/heap"
)

// initName is that of the method which New calls.
const initName = "init"

func (m *Machine) call(f *Frame, i code.Instr) error {
	switch i.Op {
	case code.CallFn:
		_, err := m.enter(f, i.A, i.B)
		return err
	case code.Call:
		return m.callClosure(f, i.B)
	case code.New:
		return m.makeNew(f, i.A, i.B)
	case code.Send:
		object := f.last(i.B + 1)[0]
		if !m.is(object, heap.Instance) {
			return throws(wordType)
		}
		return m.send(f, m.heap.Tag(object.N), i.A, i.B)
	}
	above := m.image.Classes[i.B/code.SuperStep].Above
	return m.send(f, above, i.A, i.B%code.SuperStep)
}

// callClosure calls what lies below the values.
func (m *Machine) callClosure(f *Frame, values int) error {
	called := f.last(values + 1)[0]
	if !m.is(called, heap.Closure) {
		return throws(wordType)
	}
	g, err := m.enter(f, m.heap.Tag(called.N), values)
	if err != nil {
		return err
	}
	g.Holds = f.pop()
	return nil
}

// send calls a method, that of a class or of those above it, for the object below the values.
func (m *Machine) send(f *Frame, class, name, values int) error {
	function, ok := m.method(class, m.image.Consts[name].S)
	if !ok {
		return throws(wordName)
	}
	g, err := m.enter(f, function, values)
	if err != nil {
		return err
	}
	m.give(g, f.pop())
	return nil
}

// method is the function that a class has for a name, or else the class above it, and so on.
func (m *Machine) method(class int, name string) (function int, ok bool) {
	look := named(name)
	for class >= 0 {
		c := &m.image.Classes[class]
		if number, ok := look(c.Names); ok {
			return c.Methods[number], true
		}
		class = c.Above
	}
	return 0, false
}

// mayEnter throws what a call of a function throws.
func (m *Machine) mayEnter(number, values int) error {
	if m.image.Funcs[number].Params != values {
		return throws(wordArity)
	}
	// The program's own function is under way, too, but nobody called it.
	if len(m.frames)-1 >= api.MaxCalls {
		return throws(wordDepth)
	}
	return nil
}

// enter begins a function, if it may be called so.
func (m *Machine) enter(f *Frame, number, values int) (*Frame, error) {
	if err := m.mayEnter(number, values); err != nil {
		return nil, err
	}
	return m.begin(f, number, values), nil
}

// begin begins a function, in whose first slots the last values on the stack are then.
func (m *Machine) begin(f *Frame, number, values int) *Frame {
	g := newFrame(m.image, number)
	copy(g.Slots, f.take(values))
	m.frames = append(m.frames, g)
	return g
}

// give lays a method's instance behind its values, if it has a slot there.
func (m *Machine) give(g *Frame, object heap.Value) {
	if at := m.image.Funcs[g.Func].Params; at < len(g.Slots) {
		g.Slots[at] = object
	}
}

// makeNew makes an instance, when it is sure that its init may be called: else it would have taken an identity.
func (m *Machine) makeNew(f *Frame, class, values int) error {
	function, ok := m.method(class, initName)
	if ok {
		if err := m.mayEnter(function, values); err != nil {
			return err
		}
	}
	made, err := m.instance(f, class)
	if err != nil {
		return err
	}
	if !ok {
		f.take(values)
		f.push(made)
		return nil
	}
	g := m.begin(f, function, values)
	m.give(g, made)
	g.Makes = made
	return nil
}

// leave ends a function with what it returns, or what New makes by it.
func (m *Machine) leave(f *Frame) {
	v := f.pop()
	if len(m.frames) == 1 {
		m.tell(api.Event{Kind: api.Done})
		m.ended = true
		return
	}
	if f.Makes.Kind == heap.Ref {
		v = f.Makes
	}
	m.frames = m.frames[:len(m.frames)-1]
	m.top().push(v)
}
