package check

import (
	"rewind/api"
)

// itself is what is wrong with a node, whatever is within it.
func (p place) itself(n *api.Node) error {
	switch n.Kind {
	case api.Var:
		if _, ok := p.scope.own[n.Text]; ok {
			return wrong(api.ErrTwice, n)
		}
	case api.Name:
		if !p.scope.sees(n.Text) {
			return wrong(api.ErrName, n)
		}
	case api.Call:
		if p.callsFn(n) {
			return p.callOfFn(n)
		}
	case api.This:
		if p.class == none {
			return wrong(api.ErrState, n)
		}
	case api.Super:
		return p.super(n)
	case api.New:
		return p.made(n)
	case api.Return:
		if !p.function {
			return wrong(api.ErrState, n)
		}
	}
	return nil
}

func (p place) callOfFn(call *api.Node) error {
	called, values := call.Kids[0], call.Kids[1:]
	number := p.table.Fn(called.Text)
	if number == none {
		return wrong(api.ErrName, called)
	}
	if takes(p.table.Fns[number]) != len(values) {
		return wrong(api.ErrArg, call)
	}
	return nil
}

func (p place) super(n *api.Node) error {
	if p.class == none {
		return wrong(api.ErrState, n)
	}
	above := p.table.Classes[p.class].Above
	if above == none {
		return wrong(api.ErrState, n)
	}
	if m, _ := p.table.Method(above, n.Text); m == nil {
		return wrong(api.ErrMissing, n)
	}
	return nil
}

// made looks at a New: its values are those that `init` takes.
func (p place) made(n *api.Node) error {
	class := p.table.Class(n.Text)
	if class == none {
		return wrong(api.ErrMissing, n)
	}
	asked := 0
	if m, _ := p.table.Method(class, "init"); m != nil {
		asked = takes(m)
	}
	if asked != len(n.Kids) {
		return wrong(api.ErrArg, n)
	}
	return nil
}

// takes is how many values a function takes.
func takes(function *api.Node) int {
	return len(function.Kids[0].Kids)
}
