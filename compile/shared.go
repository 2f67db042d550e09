package compile

import (
	"rewind/api"
)

// finder goes through a program as it stands, and notes the variables that functions within use: these must outlive the function that declares them.
type finder struct {
	// seen are the variables that may be used, the innermost one last.
	seen []seen
	// deep is how many functions one is in that see what is around them.
	deep   int
	shared map[*api.Node]struct{}
}

// seen is a variable, by the node that declares it, and how deep that stands.
type seen struct {
	node *api.Node
	deep int
}

// sharedOf are the nodes of a program's variables that functions within use.
func sharedOf(n *api.Node) map[*api.Node]struct{} {
	f := finder{shared: map[*api.Node]struct{}{}}
	f.look(n)
	return f.shared
}

func (f *finder) look(n *api.Node) {
	switch n.Kind {
	case api.Fn, api.Method:
		alone := finder{shared: f.shared}
		alone.function(n)
	case api.Lambda:
		f.deep++
		f.function(n)
		f.deep--
	case api.Block:
		f.scope(n.Kids)
	case api.Catch:
		f.scope(n.Kids[0].Kids, n)
	case api.Var:
		f.lookAll(n.Kids)
		f.begin(n)
	case api.Name:
		f.use(n.Text)
	default:
		f.lookAll(n.Kids)
	}
}

func (f *finder) lookAll(l []*api.Node) {
	for _, n := range l {
		f.look(n)
	}
}

func (f *finder) function(n *api.Node) {
	params, block := n.Kids[0], n.Kids[1]
	f.scope(block.Kids, params.Kids...)
}

// scope goes through statements, in a scope in which variables are declared already.
func (f *finder) scope(statements []*api.Node, variables ...*api.Node) {
	around := len(f.seen)
	f.begin(variables...)
	f.lookAll(statements)
	f.seen = f.seen[:around]
}

func (f *finder) begin(variables ...*api.Node) {
	for _, n := range variables {
		f.seen = append(f.seen, seen{node: n, deep: f.deep})
	}
}

// use notes the innermost variable of a name, if one has it, and if it is one of a function around.
func (f *finder) use(name string) {
	for i := len(f.seen) - 1; i >= 0; i-- {
		v := f.seen[i]
		if v.node.Text != name {
			continue
		}
		if v.deep < f.deep {
			f.shared[v.node] = struct{}{}
		}
		return
	}
}
