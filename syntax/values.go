package syntax

import (
	"rewind/api"
)

func (r *reader) value() *api.Node { return r.deeper(r.joined) }

func (r *reader) inParentheses() *api.Node {
	r.want("(")
	v := r.value()
	r.want(")")
	return v
}

// joinedBy makes the reader of parts with signs of one strength between.
func (r *reader) joinedBy(level int, part func() *api.Node) func() *api.Node {
	return func() *api.Node {
		n := part()
		for kind := r.joiner(level); kind != 0; kind = r.joiner(level) {
			r.take()
			n = around(kind, n, part())
		}
		return n
	}
}

// joiner is the kind of node that the sign makes that is come to (0: it is none of that strength).
func (r *reader) joiner(level int) int {
	for _, s := range signs {
		if s.strength == level && r.is(s.mark) {
			return s.kind
		}
	}
	return 0
}

// around is a node that begins where its first kid does.
func around(kind int, first *api.Node, others ...*api.Node) *api.Node {
	return &api.Node{Kind: kind, Line: first.Line, Kids: append([]*api.Node{first}, others...)}
}

func (r *reader) prefixed() *api.Node {
	kind := api.Neg
	switch {
	case r.is("!"):
		kind = api.Not
	case !r.is("-"):
		return r.suffixed()
	}
	n := r.taken(kind)
	n.Kids = append(n.Kids, r.deeper(r.prefixed))
	return n
}

func (r *reader) suffixed() *api.Node {
	n := r.simple()
	for {
		switch {
		case r.accept("."):
			n = r.member(n)
		case r.accept("["):
			n = around(api.Elem, n, r.value())
			r.want("]")
		case r.accept("("):
			n = around(api.Call, n, r.arguments()...)
		default:
			return n
		}
	}
}

// arguments reads values and the parenthesis behind them; the one ahead was taken, as it told that they come.
func (r *reader) arguments() []*api.Node { return r.listed(")", r.value) }

// member reads what stands behind a dot.
func (r *reader) member(of *api.Node) *api.Node {
	n := around(api.Get, of)
	n.Text = r.name()
	if r.accept("(") {
		n.Kind, n.Kids = api.Send, append(n.Kids, r.arguments()...)
	}
	return n
}

// simple reads a value of which no other one is the beginning.
func (r *reader) simple() *api.Node {
	switch r.now.kind {
	case nameToken:
		return r.leaf(api.Name)
	case numberToken:
		return r.leaf(api.Int)
	case stringToken:
		return r.leaf(api.Str)
	}
	if kind := r.constant(); kind != 0 {
		return r.leaf(kind)
	}
	return r.marked()
}

// leaf is a node that is one token.
func (r *reader) leaf(kind int) *api.Node {
	n := r.start(kind)
	t := r.take()
	n.Text, n.N = t.text, t.n
	return n
}

// constant is the kind of node that a word is of itself (0: it is none such).
func (r *reader) constant() int {
	switch {
	case r.is("true"):
		return api.True
	case r.is("false"):
		return api.False
	case r.is("nil"):
		return api.Nil
	case r.is("this"):
		return api.This
	}
	return 0
}

// marked reads a value that a word or sign tells.
func (r *reader) marked() *api.Node {
	switch {
	case r.is("("):
		return r.inParentheses()
	case r.is("["):
		n := r.taken(api.List)
		n.Kids = r.listed("]", r.value)
		return n
	case r.is("fn"):
		return r.lambda()
	case r.is("new"):
		return r.named(r.taken(api.New))
	case r.is("super"):
		n := r.taken(api.Super)
		r.want(".")
		return r.named(n)
	case r.is("input"):
		n := r.taken(api.Input)
		r.want("(")
		r.want(")")
		return n
	case r.is("len"):
		n := r.taken(api.Len)
		n.Kids = append(n.Kids, r.inParentheses())
		return n
	}
	panic(fault{api.ErrForm, r.now.place})
}

// named reads a name, and its arguments.
func (r *reader) named(n *api.Node) *api.Node {
	n.Text = r.name()
	r.want("(")
	n.Kids = r.arguments()
	return n
}
