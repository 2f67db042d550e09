package syntax

import (
	"rewind/api"
)

func (r *reader) statement() *api.Node { return r.deeper(r.anyStatement) }

func (r *reader) anyStatement() *api.Node {
	switch {
	case r.is("var"):
		return r.variable()
	case r.is("if"):
		return r.choice()
	case r.is("while"):
		return r.guarded(api.While)
	case r.is("return"):
		return r.returned()
	case r.is("throw"):
		return r.closed(r.taken(api.Throw), r.value)
	case r.is("print"):
		return r.closed(r.taken(api.Print), r.inParentheses)
	case r.is("try"):
		return r.try()
	}
	return r.bare()
}

// closed reads a statement's last value, and its semicolon.
func (r *reader) closed(n *api.Node, part func() *api.Node) *api.Node {
	n.Kids = append(n.Kids, part())
	r.want(";")
	return n
}

func (r *reader) variable() *api.Node {
	n := r.taken(api.Var)
	n.Text = r.name()
	r.want("=")
	return r.closed(n, r.value)
}

// guarded reads a statement that asks a value ahead of its block.
func (r *reader) guarded(kind int) *api.Node {
	n := r.taken(kind)
	n.Kids = append(n.Kids, r.inParentheses())
	n.Kids = append(n.Kids, r.block())
	return n
}

func (r *reader) choice() *api.Node {
	n := r.guarded(api.If)
	if r.accept("else") {
		n.Kids = append(n.Kids, r.block())
	}
	return n
}

func (r *reader) returned() *api.Node {
	n := r.taken(api.Return)
	if r.accept(";") {
		return n
	}
	return r.closed(n, r.value)
}

func (r *reader) try() *api.Node {
	n := r.taken(api.Try)
	n.Kids = append(n.Kids, r.block())
	n.Kids = append(n.Kids, r.catch())
	return n
}

func (r *reader) catch() *api.Node {
	n := r.start(api.Catch)
	r.want("catch")
	r.want("(")
	n.Text = r.name()
	r.want(")")
	n.Kids = append(n.Kids, r.block())
	return n
}

// bare reads a statement that begins with no word of its own. What is set is looked at as soon as = is come to: it is wrong there, whatever stands behind =.
func (r *reader) bare() *api.Node {
	n, place := r.start(api.Do), r.now.place
	n.Kids = append(n.Kids, r.value())
	if r.is("=") {
		if !settable(n.Kids[0].Kind) {
			panic(fault{api.ErrArg, place})
		}
		r.take()
		n.Kind, n.Kids = api.Set, append(n.Kids, r.value())
	}
	r.want(";")
	return n
}

func settable(kind int) bool { return kind == api.Name || kind == api.Get || kind == api.Elem }
