package syntax

import (
	"rewind/api"
)

// reader makes nodes of its lexer's tokens.
type reader struct {
	lexer
	deep   int              // statements, values, and parts behind - and ! that are under way
	joined func() *api.Node // reads a value without going deeper
}

// newReader is come to the first token. Each sign's parts are read by the reader of the next stronger ones.
func newReader(text string) *reader {
	r := &reader{lexer: lexer{source: text, line: 1}}
	r.joined = r.prefixed
	for level := strongest; level >= weakest; level-- {
		r.joined = r.joinedBy(level, r.joined)
	}
	r.advance()
	return r
}

// start is a node that begins at the token that is come to.
func (r *reader) start(kind int) *api.Node { return &api.Node{Kind: kind, Line: r.now.line} }

// taken is a node that begins with the token that is come to, which is taken.
func (r *reader) taken(kind int) *api.Node {
	n := r.start(kind)
	r.take()
	return n
}

// deeper reads a part that counts as one deeper than what it stands in.
func (r *reader) deeper(part func() *api.Node) *api.Node {
	if r.deep == api.MaxDeep {
		r.fail(api.ErrLimit)
	}
	r.deep++
	n := part()
	r.deep--
	return n
}

// listed reads parts with commas between, and the sign behind them.
func (r *reader) listed(shut string, part func() *api.Node) []*api.Node {
	var l []*api.Node
	if r.accept(shut) {
		return l
	}
	for {
		r.limitParts(len(l))
		l = append(l, part())
		if r.accept(shut) {
			return l
		}
		r.want(",")
	}
}

// limitParts is asked where a part begins, or should: whether it is a part at all doesn't matter.
func (r *reader) limitParts(many int) {
	if many == api.MaxParts {
		r.fail(api.ErrLimit)
	}
}

func (r *reader) program() *api.Node {
	n := r.start(api.Program)
	for r.now.kind != endToken {
		n.Kids = append(n.Kids, r.outermost())
	}
	return n
}

func (r *reader) outermost() *api.Node {
	switch {
	case r.is("class"):
		return r.class()
	case r.is("fn"):
		return r.fn()
	}
	return r.statement()
}

func (r *reader) class() *api.Node {
	n := r.taken(api.Class)
	n.Text = r.name()
	if r.accept("<") {
		n.Under = r.name()
	}
	r.want("{")
	for r.is("field") {
		n.Kids = append(n.Kids, r.field(len(n.Kids)))
	}
	for !r.accept("}") {
		n.Kids = append(n.Kids, r.method())
	}
	return n
}

func (r *reader) field(ahead int) *api.Node {
	n := r.taken(api.Field)
	r.limitParts(ahead)
	n.Text = r.name()
	r.want(";")
	return n
}

func (r *reader) method() *api.Node {
	n := r.start(api.Method)
	n.Text = r.name()
	return r.function(n)
}

func (r *reader) fn() *api.Node {
	n := r.taken(api.Fn)
	n.Text = r.name()
	return r.function(n)
}

func (r *reader) lambda() *api.Node { return r.function(r.taken(api.Lambda)) }

// function reads what all functions have behind their heads' beginnings.
func (r *reader) function(n *api.Node) *api.Node {
	n.Kids = append(n.Kids, r.params())
	n.Kids = append(n.Kids, r.block())
	return n
}

func (r *reader) params() *api.Node {
	n := r.start(api.Params)
	r.want("(")
	n.Kids = r.listed(")", r.param)
	return n
}

func (r *reader) param() *api.Node {
	n := r.start(api.Name)
	n.Text = r.name()
	return n
}

func (r *reader) block() *api.Node {
	n := r.start(api.Block)
	r.want("{")
	for !r.accept("}") {
		n.Kids = append(n.Kids, r.statement())
	}
	return n
}
