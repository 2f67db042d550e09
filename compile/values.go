package compile

import (
	"rewind/api"
	"rewind/code"
)

// operations are those of the nodes that are simple: first their values, from the left, then this.
var operations = [...]int{
	api.Throw: code.Throw,
	api.Print: code.Print,
	api.True:  code.True,
	api.False: code.False,
	api.Nil:   code.Nil,
	api.Input: code.Input,
	api.Len:   code.Len,
	api.Same:  code.Same,
	api.Less:  code.Less,
	api.Add:   code.Add,
	api.Sub:   code.Sub,
	api.Mul:   code.Mul,
	api.Div:   code.Div,
	api.Mod:   code.Mod,
	api.Neg:   code.Neg,
	api.Not:   code.Not,
	api.Elem:  code.Elem,
}

func (m maker) simple(n *api.Node) {
	m.values(n.Kids)
	m.emit(operations[n.Kind])
}

func (m maker) values(l []*api.Node) {
	for _, n := range l {
		m.value(n)
	}
}

// value makes what leaves one value on the stack.
func (m maker) value(n *api.Node) {
	switch n.Kind {
	case api.Int:
		m.emit(code.Push, m.whole.constant(code.Const{N: n.N}))
	case api.Str:
		m.emit(code.Push, m.whole.text(n.Text))
	case api.This:
		m.load(this)
	case api.Name:
		m.load(n.Text)
	case api.Or:
		m.either(n, code.IfTrue)
	case api.And:
		m.either(n, code.IfFalse)
	case api.Lambda:
		m.lambda(n)
	case api.List:
		m.values(n.Kids)
		m.emit(code.List, len(n.Kids))
	case api.Get:
		m.values(n.Kids)
		m.emit(code.Get, m.whole.text(n.Text))
	case api.New, api.Super, api.Send, api.Call:
		m.call(n)
	default:
		m.simple(n)
	}
}

// either makes an Or or And: op goes to the end with the first value, if that tells what it is.
func (m maker) either(n *api.Node, op int) {
	m.value(n.Kids[0])
	end := m.ahead(op)
	m.value(n.Kids[1])
	m.emit(code.Truth)
	m.land(end)
}

func (m maker) call(n *api.Node) {
	if n.Kind == api.Call && m.callsFn(n.Kids[0]) {
		values := n.Kids[1:]
		m.values(values)
		m.emit(code.CallFn, fnNumber(m.whole.table.Fn(n.Kids[0].Text)), len(values))
		return
	}
	if n.Kind == api.Super {
		m.load(this)
	}
	m.values(n.Kids)
	switch n.Kind {
	case api.New:
		m.emit(code.New, m.whole.table.Class(n.Text), len(n.Kids))
	case api.Super:
		m.emit(code.Super, m.whole.text(n.Text), m.class*code.SuperStep+len(n.Kids))
	case api.Send:
		m.emit(code.Send, m.whole.text(n.Text), len(n.Kids)-1)
	default:
		m.emit(code.Call, 0, len(n.Kids)-1)
	}
}

// callsFn: is what is called a Name that no variable has?
func (m maker) callsFn(called *api.Node) bool {
	if called.Kind != api.Name {
		return false
	}
	_, ok := m.find(called.Text)
	return !ok
}

// load leaves what a variable is. (All are found: Check looked for them.)
func (m maker) load(name string) {
	p, _ := m.find(name)
	switch {
	case p.held && p.boxed:
		m.emit(code.LoadCap, p.at)
	case p.held:
		m.emit(code.Cap, p.at)
	case p.boxed:
		m.emit(code.LoadBox, p.at)
	default:
		m.emit(code.Load, p.at)
	}
}

// store sets a variable; what is held lies in a box.
func (m maker) store(name string) {
	p, _ := m.find(name)
	switch {
	case p.held:
		m.emit(code.StoreCap, p.at)
	case p.boxed:
		m.emit(code.StoreBox, p.at)
	default:
		m.emit(code.Store, p.at)
	}
}
