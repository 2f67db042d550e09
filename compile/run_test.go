package compile

import (
	"rewind/api"
	"rewind/code"
)

// runner does what an image does, instruction by instruction, on objects of Go's own: a stand-in for the machine that images are made for.
type runner struct {
	tape
	image  *code.Image
	frames []*frame
	// told is asked behind each event, if it is there.
	told func()
}

type frame struct {
	function *code.Func
	at, line int
	slots    []value
	stack    []value
	holds    *object
	makes    *object
}

// run are the events of an image.
func run(m *code.Image, inputs []int) []api.Event {
	r := &runner{tape: tape{inputs: inputs}, image: m}
	r.run()
	return r.events
}

func (r *runner) run() {
	r.enter(0, nil, nil)
	for r.step() {
	}
}

func (r *runner) event(e api.Event) {
	if len(r.events) < api.MaxEvents {
		r.events = append(r.events, e)
		if r.told != nil {
			r.told()
		}
	}
}

// step: one instruction, and does it go on?
func (r *runner) step() (on bool) {
	defer func() {
		if x := recover(); x != nil {
			t, ok := x.(thrown)
			if !ok {
				panic(x)
			}
			on = r.thrown(t.value)
		}
	}()
	f := r.frames[len(r.frames)-1]
	i := f.function.Code[f.at]
	f.at++
	r.do(f, i)
	return len(r.frames) > 0 && len(r.events) < api.MaxEvents
}

// thrown goes on at who catches it; is there one?
func (r *runner) thrown(v value) bool {
	line := r.frames[len(r.frames)-1].line
	for k := len(r.frames) - 1; k >= 0; k-- {
		f := r.frames[k]
		for _, h := range f.function.Handlers {
			if h.From < f.at && f.at <= h.To {
				r.frames = r.frames[:k+1]
				f.at, f.stack = h.Target, []value{v}
				r.event(api.Event{Kind: api.Thrown, Line: line, Text: show(v)})
				return len(r.events) < api.MaxEvents
			}
		}
	}
	r.frames = nil
	r.event(api.Event{Kind: api.Thrown, Line: line, Text: show(v)})
	r.event(api.Event{Kind: api.Dead, Text: show(v)})
	return false
}

// deep: MaxCalls calls are under way, and the program's own function.
func (r *runner) deep() {
	if len(r.frames) == api.MaxCalls+1 {
		throw("depth")
	}
}

// enter begins a function; a method's instance lies behind its values.
func (r *runner) enter(number int, values []value, this *object) *frame {
	f := &r.image.Funcs[number]
	if len(r.frames) > 0 {
		if f.Params != len(values) {
			throw("arity")
		}
		r.deep()
	}
	slots := make([]value, f.Slots)
	copy(slots, values)
	if this != nil {
		slots[f.Params] = this
	}
	r.frames = append(r.frames, &frame{function: f, slots: slots})
	return r.frames[len(r.frames)-1]
}

func (f *frame) push(v value) { f.stack = append(f.stack, v) }

func (f *frame) pop() value { return f.take(1)[0] }

func (f *frame) take(many int) []value {
	rest := len(f.stack) - many
	l := f.stack[rest:]
	f.stack = f.stack[:rest:rest]
	return l
}

// held is where what a closure holds lies.
func (f *frame) held(i code.Instr) *value {
	if i.B > 0 {
		return &f.holds.has[i.A].(*object).has[i.B-1]
	}
	return &f.holds.has[i.A]
}

func (r *runner) do(f *frame, i code.Instr) {
	switch i.Op {
	case code.Stop:
		f.line = i.A
		r.event(api.Event{Kind: api.Stop, Line: i.A})
	case code.Caught:
		f.line = i.A
		r.event(api.Event{Kind: api.Caught, Line: i.A})
	case code.Print:
		r.event(api.Event{Kind: api.Out, Text: show(f.pop())})
	case code.Return:
		r.leave(f, f.pop())
	case code.Throw:
		panic(thrown{f.pop()})
	case code.Pop:
		f.pop()
	case code.Jump:
		f.at = i.A
	case code.Unless:
		if !truth(f.pop()) {
			f.at = i.A
		}
	case code.IfTrue, code.IfFalse:
		if v := truth(f.pop()); v == (i.Op == code.IfTrue) {
			f.push(v)
			f.at = i.A
		}
	case code.Truth:
		f.push(truth(f.pop()))
	case code.Get, code.SetGet, code.Elem, code.SetElem, code.List:
		r.objects(f, i)
	case code.Send, code.Super, code.New, code.Call, code.CallFn:
		r.call(f, i)
	default:
		r.simple(f, i)
	}
}

func (r *runner) leave(f *frame, v value) {
	r.frames = r.frames[:len(r.frames)-1]
	if len(r.frames) == 0 {
		r.event(api.Event{Kind: api.Done})
		return
	}
	if f.makes != nil {
		v = f.makes
	}
	r.frames[len(r.frames)-1].push(v)
}

func (r *runner) simple(f *frame, i code.Instr) {
	kinds := map[int]int{code.Not: api.Not, code.Neg: api.Neg, code.Len: api.Len, code.Same: api.Same, code.Less: api.Less, code.Add: api.Add, code.Sub: api.Sub, code.Mul: api.Mul, code.Div: api.Div, code.Mod: api.Mod}
	switch i.Op {
	case code.Push:
		if c := r.image.Consts[i.A]; c.Text {
			f.push(c.S)
		} else {
			f.push(c.N)
		}
	case code.Nil:
		f.push(nil)
	case code.True, code.False:
		f.push(i.Op == code.True)
	case code.Input:
		f.push(r.input())
	case code.Load:
		f.push(f.slots[i.A])
	case code.Store:
		f.slots[i.A] = f.pop()
	case code.Box:
		f.slots[i.A] = &object{kind: isBox, has: f.take(1)}
	case code.LoadBox:
		f.push(f.slots[i.A].(*object).has[0])
	case code.StoreBox:
		f.slots[i.A].(*object).has[0] = f.pop()
	case code.Cap:
		f.push(*f.held(i))
	case code.LoadCap:
		f.push((*f.held(i)).(*object).has[0])
	case code.StoreCap:
		(*f.held(i)).(*object).has[0] = f.pop()
	case code.Closure:
		f.push(r.object(object{kind: isFn, name: "fn", which: i.A, has: f.take(i.B)}))
	case code.Not, code.Neg, code.Len:
		f.push(one(kinds[i.Op], f.pop()))
	default:
		l := f.take(2)
		f.push(r.two(kinds[i.Op], l[0], l[1]))
	}
}

func (r *runner) objects(f *frame, i code.Instr) {
	switch i.Op {
	case code.List:
		if i.B == code.Packed {
			f.push(&object{kind: isBox, has: f.take(i.A)})
		} else {
			f.push(r.list(f.take(i.A)))
		}
	case code.Elem:
		l := f.take(2)
		f.push(r.two(api.Elem, l[0], l[1]))
	case code.SetElem:
		l := f.take(3)
		list, at := element(l[0], l[1])
		list.has[at] = l[2]
	case code.Get:
		o := instance(f.pop())
		f.push(o.has[r.field(o, i.A)])
	case code.SetGet:
		l := f.take(2)
		o := instance(l[0])
		o.has[r.field(o, i.A)] = l[1]
	}
}

func (r *runner) field(o *object, name int) int {
	for k, f := range r.image.Classes[o.which].Fields {
		if f == r.image.Consts[name].S {
			return k
		}
	}
	throw("name")
	return 0
}

// method is the function of a class, or of those above it.
func (r *runner) method(class int, name string) (int, bool) {
	for ; class >= 0; class = r.image.Classes[class].Above {
		for k, n := range r.image.Classes[class].Names {
			if n == name {
				return r.image.Classes[class].Methods[k], true
			}
		}
	}
	return 0, false
}

func (r *runner) call(f *frame, i code.Instr) {
	switch i.Op {
	case code.CallFn:
		r.enter(i.A, f.take(i.B), nil)
	case code.Call:
		l := f.take(i.B + 1)
		o, ok := l[0].(*object)
		if !ok || o.kind != isFn {
			throw("type")
		}
		r.enter(o.which, l[1:], nil).holds = o
	case code.Send:
		l := f.take(i.B + 1)
		o := instance(l[0])
		m, ok := r.method(o.which, r.image.Consts[i.A].S)
		if !ok {
			throw("name")
		}
		r.enter(m, l[1:], o)
	case code.Super:
		l := f.take(i.B%code.SuperStep + 1)
		m, _ := r.method(r.image.Classes[i.B/code.SuperStep].Above, r.image.Consts[i.A].S)
		r.enter(m, l[1:], l[0].(*object))
	case code.New:
		r.made(f, i.A, f.take(i.B))
	}
}

func (r *runner) made(f *frame, class int, values []value) {
	m, ok := r.method(class, "init")
	if ok {
		r.deep()
	}
	c := r.image.Classes[class]
	o := r.object(object{name: c.Name, which: class, has: make([]value, len(c.Fields))})
	if ok {
		r.enter(m, values, o).makes = o
	} else {
		f.push(o)
	}
}
