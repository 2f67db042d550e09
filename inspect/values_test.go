package inspect

import (
	"slices"

	"rewind/api"
)

func (w *walker) truth(is any) bool {
	b, ok := is.(bool)
	if !ok {
		w.throw("type")
	}
	return b
}

// create gives a new object its identity.
func (w *walker) create(o thing) *thing {
	w.made++
	o.id = w.made
	return &o
}

func (w *walker) list(has []any) *thing { return w.create(thing{class: "list", has: has}) }

// asList is a value that is a list, or nil.
func asList(is any) *thing {
	if o, ok := is.(*thing); ok && o.names == nil && o.node == nil {
		return o
	}
	return nil
}

// instance is a value that must be one.
func (w *walker) instance(is any) *thing {
	o, ok := is.(*thing)
	if !ok || o.names == nil {
		w.throw("type")
	}
	return o
}

func (w *walker) values(l []*api.Node) (all []any) {
	for _, n := range l {
		all = append(all, w.value(n))
	}
	return all
}

// find is a name's variable that is seen, nil: there is none.
func (w *walker) find(name string) *variable {
	v := w.top().here
	for v != nil && v.name != name {
		v = v.before
	}
	return v
}

// spot is where an element, or a field, lies.
func (w *walker) spot(n *api.Node, of []any) *any {
	if n.Kind == api.Get {
		o := w.instance(of[0])
		i := slices.Index(o.names, n.Text)
		if i < 0 {
			w.throw("name")
		}
		return &o.has[i]
	}
	l := asList(of[0])
	i, ok := of[1].(int)
	if l == nil || !ok {
		w.throw("type")
	}
	if i < 0 || i >= len(l.has) {
		w.throw("index")
	}
	return &l.has[i]
}

func (w *walker) set(target, n *api.Node) {
	if target.Kind == api.Name {
		is := w.value(n)
		w.find(target.Text).is = is
		return
	}
	of := w.values(target.Kids)
	is := w.value(n)
	*w.spot(target, of) = is
}

func (w *walker) value(n *api.Node) any {
	switch n.Kind {
	case api.Int:
		return n.N
	case api.Str:
		return n.Text
	case api.True, api.False:
		return n.Kind == api.True
	case api.Nil:
		return nil
	case api.This:
		return w.top().this
	case api.Name:
		return w.find(n.Text).is
	case api.Input:
		if len(w.inputs) == 0 {
			return nil
		}
		first := w.inputs[0]
		w.inputs = w.inputs[1:]
		return first
	case api.Or, api.And:
		if first := w.truth(w.value(n.Kids[0])); first == (n.Kind == api.Or) {
			return first
		}
		return w.truth(w.value(n.Kids[1]))
	case api.List:
		return w.list(w.values(n.Kids))
	case api.Lambda:
		return w.create(thing{class: "fn", node: n, around: w.top().here, in: w.top()})
	case api.Get, api.Elem:
		return *w.spot(n, w.values(n.Kids))
	case api.New, api.Super, api.Send, api.Call:
		return w.called(n)
	}
	l := w.values(n.Kids)
	if len(l) == 1 {
		return w.one(n.Kind, l[0])
	}
	return w.two(n.Kind, l[0], l[1])
}

func (w *walker) one(kind int, is any) any {
	switch v := is.(type) {
	case bool:
		if kind == api.Not {
			return !v
		}
	case int:
		if kind == api.Neg {
			return -v
		}
	case string:
		if kind == api.Len {
			return len(v)
		}
	}
	l := asList(is)
	if kind != api.Len || l == nil {
		w.throw("type")
	}
	return len(l.has)
}

func (w *walker) two(kind int, a, b any) any {
	if kind == api.Same {
		return a == b
	}
	x, isX := a.(int)
	y, isY := b.(int)
	if isX && isY {
		return w.numbers(kind, x, y)
	}
	s, isS := a.(string)
	u, isU := b.(string)
	l, k := asList(a), asList(b)
	switch {
	case isS && isU && kind == api.Less:
		return s < u
	case isS && isU && kind == api.Add:
		w.most(len(s)+len(u), api.MaxString)
		return s + u
	case l != nil && k != nil && kind == api.Add:
		w.most(len(l.has)+len(k.has), api.MaxList)
		return w.list(slices.Concat(l.has, k.has))
	}
	w.throw("type")
	return nil
}

func (w *walker) most(size, most int) {
	if size > most {
		w.throw("size")
	}
}

func (w *walker) numbers(kind, x, y int) any {
	if y == 0 && (kind == api.Div || kind == api.Mod) {
		w.throw("zero")
	}
	switch kind {
	case api.Less:
		return x < y
	case api.Add:
		return x + y
	case api.Sub:
		return x - y
	case api.Mul:
		return x * y
	case api.Div:
		return x / y
	}
	return x % y
}

// named is the program's class or function of a name, nil: none.
func (w *walker) named(kind int, name string) *api.Node {
	for _, n := range w.program.Kids {
		if n.Kind == kind && n.Text == name {
			return n
		}
	}
	return nil
}

// upward are a class and those above it, the topmost one last.
func (w *walker) upward(name string) (l []*api.Node) {
	for n := w.named(api.Class, name); n != nil; n = w.named(api.Class, n.Under) {
		l = append(l, n)
	}
	return l
}

// method is that which a class has, or one above it, and the name of that one.
func (w *walker) method(class, name string) (*api.Node, string) {
	for _, c := range w.upward(class) {
		for _, m := range c.Kids {
			if m.Kind == api.Method && m.Text == name {
				return m, c.Text
			}
		}
	}
	return nil, ""
}

// fields are the names of a class's, those of the topmost one first.
func (w *walker) fields(class string) []string {
	l := []string{}
	for _, c := range slices.Backward(w.upward(class)) {
		for _, f := range c.Kids {
			if f.Kind == api.Field {
				l = append(l, f.Text)
			}
		}
	}
	return l
}

func (w *walker) called(n *api.Node) any {
	if n.Kind == api.Call && n.Kids[0].Kind == api.Name && w.find(n.Kids[0].Text) == nil {
		return w.call(w.named(api.Fn, n.Kids[0].Text), &under{name: n.Kids[0].Text}, w.values(n.Kids[1:]))
	}
	l := w.values(n.Kids)
	switch n.Kind {
	case api.New:
		return w.instantiate(n.Text, l)
	case api.Super:
		above := w.named(api.Class, w.top().class).Under
		return w.callMethod(w.top().this, above, n.Text, l)
	case api.Send:
		o := w.instance(l[0])
		return w.callMethod(o, o.class, n.Text, l[1:])
	}
	f, ok := l[0].(*thing)
	if !ok || f.node == nil {
		w.throw("type")
	}
	return w.call(f.node, &under{name: "fn", this: f.in.this, class: f.in.class, around: f.around}, l[1:])
}

func (w *walker) callMethod(this *thing, class, name string, l []any) any {
	m, in := w.method(class, name)
	if m == nil {
		w.throw("name")
	}
	return w.call(m, &under{name: in + "." + name, this: this, class: in, method: true}, l)
}

// instantiate is what New makes, when its init is through.
func (w *walker) instantiate(class string, l []any) any {
	m, _ := w.method(class, "init")
	if m != nil {
		w.deep()
	}
	names := w.fields(class)
	o := w.create(thing{class: class, names: names, has: make([]any, len(names))})
	if m != nil {
		w.callMethod(o, class, "init", l)
	}
	return o
}

func (w *walker) deep() {
	if len(w.under) > api.MaxCalls {
		w.throw("depth")
	}
}

// call is what a function returns.
func (w *walker) call(n *api.Node, u *under, l []any) any {
	params := n.Kids[0].Kids
	if len(params) != len(l) {
		w.throw("arity")
	}
	w.deep()
	u.here = u.around
	for i, p := range params {
		u.here = &variable{p.Text, l[i], u.here}
	}
	u.there = u.here
	w.under = append(w.under, u)
	returns := w.statements(n.Kids[1].Kids)
	w.under = w.under[:len(w.under)-1]
	if !returns {
		return nil
	}
	return w.returned
}
