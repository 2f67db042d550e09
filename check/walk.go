package check

import (
	"rewind/api"
)

// place is where code stands.
type place struct {
	table *Table
	scope *scope
	// class is that in whose methods it is (-1: it is in none).
	class int
	// function: may it return?
	function bool
}

// outermost is where the program's own statements stand.
func outermost(t *Table) place {
	return place{table: t, scope: alone(), class: none}
}

// inner is a place in a block there.
func (p place) inner() place {
	p.scope = within(p.scope.sees)
	return p
}

// all goes through nodes that stand one behind the other.
func (p place) all(l []*api.Node) error {
	for _, n := range l {
		if err := p.node(n); err != nil {
			return err
		}
	}
	return nil
}

// node looks at a node, and then at what is within it.
func (p place) node(n *api.Node) error {
	if err := p.itself(n); err != nil {
		return err
	}
	switch n.Kind {
	case api.Class:
		p.class = p.table.Class(n.Text)
		return p.all(n.Kids)
	case api.Fn, api.Method:
		p.scope, p.function = alone(), true
		return p.body(n)
	case api.Lambda:
		p = p.inner()
		p.function = true
		return p.body(n)
	case api.Block:
		return p.inner().all(n.Kids)
	case api.Catch:
		p = p.inner()
		p.scope.own.add(n.Text)
		return p.all(n.Kids[0].Kids)
	case api.Var:
		err := p.all(n.Kids)
		p.scope.own.add(n.Text)
		return err
	case api.Call:
		if p.callsFn(n) {
			return p.all(n.Kids[1:])
		}
	}
	return p.all(n.Kids)
}

// body goes through a function's parameters and its statements, which are in one scope.
func (p place) body(function *api.Node) error {
	params, block := function.Kids[0], function.Kids[1]
	for _, n := range params.Kids {
		if !p.scope.own.add(n.Text) {
			return wrong(api.ErrTwice, n)
		}
	}
	return p.all(block.Kids)
}

// callsFn: a Call of a Name that no variable has is one of a Fn.
func (p place) callsFn(call *api.Node) bool {
	called := call.Kids[0]
	return called.Kind == api.Name && !p.scope.sees(called.Text)
}
