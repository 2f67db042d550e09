package vm

import (
	"slices"

	"rewind/api"
	"rewind/code"
	"rewind/heap"
)

// maxQuiet is how many instructions may be done without an event.
const maxQuiet = 100_000

// Next runs up to the next event. False: it is over (behind Done, Dead, MaxEvents, or for want of room).
func (m *Machine) Next() (_ api.Event, _ bool) {
	if m.Ended() {
		return api.Event{}, false
	}
	if m.uncaught {
		m.tell(api.Event{Kind: api.Dead, Text: m.last.Text})
		m.ended = true
		return m.last, true
	}
	told := m.events
	for range maxQuiet {
		if m.step() != nil {
			break
		}
		if m.events > told {
			return m.last, true
		}
	}
	m.ended, m.full = true, true
	return api.Event{}, false
}

func (m *Machine) tell(e api.Event) {
	m.last = e
	m.events++
}

// top is the function that goes on.
func (m *Machine) top() *Frame { return m.frames[len(m.frames)-1] }

// step does one instruction. An error: there is no room.
func (m *Machine) step() error {
	f := m.top()
	i := m.image.Funcs[f.Func].Code[f.At]
	f.At++
	err := m.do(f, i)
	if t, ok := err.(thrown); ok {
		m.throw(t.value)
		return nil
	}
	return err
}

// throw goes on where a value is caught: functions that do not catch it are gone.
func (m *Machine) throw(v heap.Value) {
	e := api.Event{Kind: api.Thrown, Line: m.top().Line, Text: m.Show(v)}
	for deep, f := range slices.Backward(m.frames) {
		if target, ok := m.catches(f); ok {
			m.frames = m.frames[:deep+1]
			f.At, f.Stack = target, []heap.Value{v}
			m.tell(e)
			return
		}
	}
	m.frames = m.frames[:1]
	// No variable is there at this place.
	m.frames[0].At, m.frames[0].Stack = nowhere, nil
	m.uncaught = true
	m.tell(e)
}

// catches is where a function goes on, if what it does last throws: the next instruction is the one behind that.
func (m *Machine) catches(f *Frame) (target int, ok bool) {
	handlers := m.image.Funcs[f.Func].Handlers
	number := slices.IndexFunc(handlers, func(h code.Handler) bool {
		return h.From < f.At && f.At <= h.To
	})
	if number < 0 {
		return 0, false
	}
	return handlers[number].Target, true
}

// do does an instruction of the function that goes on. What it throws is a thrown; another error: there is no room.
func (m *Machine) do(f *Frame, i code.Instr) error {
	switch i.Op {
	case code.Stop:
		m.stop(f, i.A)
	case code.Caught:
		f.Line = i.A
		m.tell(api.Event{Kind: api.Caught, Line: i.A})
	case code.Print:
		m.tell(api.Event{Kind: api.Out, Text: m.Show(f.pop())})
	case code.Return:
		m.leave(f)
	case code.Throw:
		return thrown{f.pop()}
	case code.Jump:
		f.At = i.A
	case code.Unless, code.IfTrue, code.IfFalse, code.Truth:
		return f.branch(i)
	case code.Neg, code.Not, code.Len:
		return m.one(f, i.Op)
	case code.Same, code.Less, code.Add, code.Sub, code.Mul, code.Div, code.Mod:
		return m.two(f, i.Op)
	case code.List, code.Closure, code.Box:
		return m.create(f, i)
	case code.LoadBox, code.StoreBox, code.Cap, code.LoadCap, code.StoreCap, code.Elem, code.SetElem, code.Get, code.SetGet:
		return m.reach(f, i)
	case code.Send, code.Super, code.New, code.Call, code.CallFn:
		return m.call(f, i)
	default:
		m.simple(f, i)
	}
	return nil
}

func (m *Machine) simple(f *Frame, i code.Instr) {
	switch i.Op {
	case code.Push:
		f.push(constant(m.image.Consts[i.A]))
	case code.Nil:
		f.push(heap.Value{})
	case code.True, code.False:
		f.push(truth(i.Op == code.True))
	case code.Input:
		f.push(m.input())
	case code.Load:
		f.push(f.Slots[i.A])
	case code.Store:
		f.Slots[i.A] = f.pop()
	case code.Pop:
		f.pop()
	}
}

// input is the next one; nil, if there is none.
func (m *Machine) input() heap.Value {
	if len(m.inputs) == 0 {
		return heap.Value{}
	}
	first := m.inputs[0]
	m.inputs = m.inputs[1:]
	return number(first)
}

// stop begins a statement.
func (m *Machine) stop(f *Frame, line int) {
	if len(m.collect) > 0 {
		m.collectBy(m.collect[m.stops%len(m.collect)])
	}
	m.stops++
	f.Line = line
	m.tell(api.Event{Kind: api.Stop, Line: line})
}
