package compile

import (
	"rewind/api"
)

// walker does what a program does by going through its nodes, as 4.2 to 4.5 tell: what its image does is held against this.
type walker struct {
	tape
	program *api.Node
	calls   int
	// lambdas are those of closures, by the objects' numbers.
	lambdas []closure
}

type closure struct {
	node   *api.Node
	around *activity
}

// activity is where code is under way: the variable that was declared last, those ahead of it, and the function. What is declared later is not seen from it.
type activity struct {
	name   string
	is     *value
	before *activity
	of     *call
}

// call is a function that is under way.
type call struct {
	line int
	this *object
	// class is that in which the method stands.
	class *api.Node
}

// returned is a value on its way out of a function.
type returned struct{ value value }

// walk are the events of a program.
func walk(n *api.Node, inputs []int) []api.Event {
	w := &walker{tape: tape{inputs: inputs}, program: n}
	w.whole()
	return w.events
}

func (w *walker) whole() {
	defer func() {
		if r := recover(); r != nil {
			if _, ok := r.(tooMany); !ok {
				panic(r)
			}
		}
	}()
	if v, died := w.catches(func() { w.statements(w.program.Kids, &activity{of: &call{}}) }); died {
		w.tell(api.Event{Kind: api.Dead, Text: show(v)})
	} else {
		w.tell(api.Event{Kind: api.Done})
	}
}

// catches: does what is done throw something, and what?
func (w *walker) catches(do func()) (v value, throws bool) {
	calls := w.calls
	defer func() {
		if r := recover(); r != nil {
			t, ok := r.(thrown)
			if !ok {
				panic(r)
			}
			w.calls = calls
			v, throws = t.value, true
		}
	}()
	do()
	return nil, false
}

// throw tells what is thrown, and throws it. (What only a word throws is told where it is known which function throws it: in value.)
func (w *walker) throw(a *activity, v value) {
	w.tell(api.Event{Kind: api.Thrown, Line: a.of.line, Text: show(v)})
	panic(thrown{v})
}

// with is a with one more variable, a new one.
func (a *activity) with(name string, v value) *activity {
	return &activity{name: name, is: &v, before: a, of: a.of}
}

func (a *activity) find(name string) *value {
	for ; a != nil; a = a.before {
		if a.name == name {
			return a.is
		}
	}
	return nil
}

func (w *walker) statements(l []*api.Node, a *activity) {
	for _, n := range l {
		switch n.Kind {
		case api.Class, api.Fn:
		case api.Var:
			w.begin(n, a)
			a = a.with(n.Text, w.value(n.Kids[0], a))
		default:
			w.statement(n, a)
		}
	}
}

func (w *walker) begin(n *api.Node, a *activity) {
	a.of.line = n.Line
	w.tell(api.Event{Kind: api.Stop, Line: n.Line})
}

func (w *walker) statement(n *api.Node, a *activity) {
	w.begin(n, a)
	switch n.Kind {
	case api.Set:
		w.set(n.Kids[0], n.Kids[1], a)
	case api.If:
		if w.truth(n.Kids[0], a) {
			w.statements(n.Kids[1].Kids, a)
		} else if len(n.Kids) == 3 {
			w.statements(n.Kids[2].Kids, a)
		}
	case api.While:
		if w.truth(n.Kids[0], a) {
			w.statements(n.Kids[1].Kids, a)
			w.statement(n, a)
		}
	case api.Return:
		r := returned{}
		if len(n.Kids) == 1 {
			r.value = w.value(n.Kids[0], a)
		}
		panic(r)
	case api.Throw:
		w.throw(a, w.value(n.Kids[0], a))
	case api.Print:
		w.tell(api.Event{Kind: api.Out, Text: show(w.value(n.Kids[0], a))})
	case api.Do:
		w.value(n.Kids[0], a)
	case api.Try:
		w.attempt(n.Kids[0], n.Kids[1], a)
	default:
		panic("no statement")
	}
}

func (w *walker) attempt(block, catch *api.Node, a *activity) {
	v, throws := w.catches(func() { w.statements(block.Kids, a) })
	if !throws {
		return
	}
	a.of.line = catch.Line
	w.tell(api.Event{Kind: api.Caught, Line: catch.Line})
	w.statements(catch.Kids[0].Kids, a.with(catch.Text, v))
}

// words does what may throw a word, in a function that throws it then.
func (w *walker) words(a *activity, do func()) {
	defer func() {
		if r := recover(); r != nil {
			if t, ok := r.(thrown); ok {
				w.throw(a, t.value)
			}
			panic(r)
		}
	}()
	do()
}

func (w *walker) truth(n *api.Node, a *activity) (b bool) {
	v := w.value(n, a)
	w.words(a, func() { b = truth(v) })
	return b
}

func (w *walker) set(target, n *api.Node, a *activity) {
	parts := w.values(target, a)
	v := w.value(n, a)
	w.words(a, func() {
		switch target.Kind {
		case api.Name:
			*a.find(target.Text) = v
		case api.Get:
			o := instance(parts[0])
			o.has[w.field(o, target.Text)] = v
		case api.Elem:
			l, at := element(parts[0], parts[1])
			l.has[at] = v
		}
	})
}

// values are those of a node's kids, but of a Name that is set, which has none.
func (w *walker) values(n *api.Node, a *activity) (l []value) {
	for _, k := range n.Kids {
		l = append(l, w.value(k, a))
	}
	return l
}

func (w *walker) class(name string) *api.Node {
	for _, n := range w.program.Kids {
		if n.Kind == api.Class && n.Text == name {
			return n
		}
	}
	return nil
}

// fields are those of a class, the topmost ones first.
func (w *walker) fields(class *api.Node) (l []string) {
	if class == nil {
		return nil
	}
	l = w.fields(w.class(class.Under))
	for _, n := range class.Kids {
		if n.Kind == api.Field {
			l = append(l, n.Text)
		}
	}
	return l
}

func (w *walker) field(o *object, name string) int {
	for i, f := range w.fields(w.class(o.name)) {
		if f == name {
			return i
		}
	}
	throw("name")
	return 0
}

// method is that of a class, or of those above it, and in which class it stands.
func (w *walker) method(class *api.Node, name string) (method, in *api.Node) {
	for ; class != nil; class = w.class(class.Under) {
		for _, n := range class.Kids {
			if n.Kind == api.Method && n.Text == name {
				return n, class
			}
		}
	}
	return nil, nil
}

func (w *walker) value(n *api.Node, a *activity) (v value) {
	switch n.Kind {
	case api.Int:
		return n.N
	case api.Str:
		return n.Text
	case api.True, api.False:
		return n.Kind == api.True
	case api.Nil:
		return nil
	case api.Input:
		return w.input()
	case api.This:
		return a.of.this
	case api.Name:
		return *a.find(n.Text)
	case api.Or, api.And:
		if first := w.truth(n.Kids[0], a); first == (n.Kind == api.Or) {
			return first
		}
		return w.truth(n.Kids[1], a)
	case api.List:
		return w.list(w.values(n, a))
	case api.Lambda:
		w.lambdas = append(w.lambdas, closure{node: n, around: a})
		return w.object(object{kind: isFn, name: "fn", which: len(w.lambdas) - 1})
	case api.New, api.Super, api.Send, api.Call:
		return w.called(n, a)
	}
	l := w.values(n, a)
	w.words(a, func() {
		switch {
		case n.Kind == api.Get:
			o := instance(l[0])
			v = o.has[w.field(o, n.Text)]
		case len(l) == 1:
			v = one(n.Kind, l[0])
		default:
			v = w.two(n.Kind, l[0], l[1])
		}
	})
	return v
}

// called is what a New, Super, Send or Call is.
func (w *walker) called(n *api.Node, a *activity) value {
	if callee := n.Kids; n.Kind == api.Call && callee[0].Kind == api.Name && a.find(callee[0].Text) == nil {
		return w.call(w.fn(callee[0].Text), w.values(&api.Node{Kids: n.Kids[1:]}, a), a, &activity{of: &call{}})
	}
	l := w.values(n, a)
	switch n.Kind {
	case api.New:
		return w.made(w.class(n.Text), l, a)
	case api.Super:
		m, in := w.method(w.class(a.of.class.Under), n.Text)
		return w.call(m, l, a, &activity{of: &call{this: a.of.this, class: in}})
	case api.Send:
		var m, in *api.Node
		var o *object
		w.words(a, func() {
			o = instance(l[0])
			if m, in = w.method(w.class(o.name), n.Text); m == nil {
				throw("name")
			}
		})
		return w.call(m, l[1:], a, &activity{of: &call{this: o, class: in}})
	}
	var c closure
	w.words(a, func() {
		o, ok := l[0].(*object)
		if !ok || o.kind != isFn {
			throw("type")
		}
		c = w.lambdas[o.which]
	})
	inner := *c.around
	inner.of = &call{this: c.around.of.this, class: c.around.of.class}
	return w.call(c.node, l[1:], a, &inner)
}

func (w *walker) fn(name string) *api.Node {
	for _, n := range w.program.Kids {
		if n.Kind == api.Fn && n.Text == name {
			return n
		}
	}
	return nil
}

func (w *walker) made(class *api.Node, l []value, a *activity) value {
	m, in := w.method(class, "init")
	if m != nil {
		w.deep(a)
	}
	o := w.object(object{name: class.Text, has: make([]value, len(w.fields(class)))})
	if m != nil {
		w.call(m, l, a, &activity{of: &call{this: o, class: in}})
	}
	return o
}

// deep throws depth, if MaxCalls calls are under way.
func (w *walker) deep(a *activity) {
	if w.calls == api.MaxCalls {
		w.throw(a, "depth")
	}
}

// call is what a function returns that is called from a; inner is where it is under way.
func (w *walker) call(function *api.Node, l []value, a, inner *activity) (v value) {
	params, block := function.Kids[0].Kids, function.Kids[1].Kids
	if len(params) != len(l) {
		w.throw(a, "arity")
	}
	w.deep(a)
	w.calls++
	defer func() {
		if r := recover(); r != nil {
			out, ok := r.(returned)
			if !ok {
				panic(r)
			}
			v = out.value
			w.calls--
		}
	}()
	for i, p := range params {
		inner = inner.with(p.Text, l[i])
	}
	w.statements(block, inner)
	w.calls--
	return nil
}
