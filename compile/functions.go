package compile

import (
	"slices"

	"rewind/api"
	"rewind/code"
)

// this is the name of a method's instance: no variable has it, since it is a word.
const this = "this"

// function makes a function's beginning, and its statements. Its values lie in the first slots, behind them a method's instance.
func (m maker) function(n *api.Node) {
	params, block := n.Kids[0].Kids, n.Kids[1].Kids
	m.open()
	m.made.Params = len(params)
	var variables []variable
	for _, p := range params {
		variables = append(variables, m.variable(p))
	}
	if n.Kind == api.Method {
		variables = slices.Insert(variables, 0, variable{name: this, slot: m.slot()})
	}
	for _, v := range variables {
		if v.boxed {
			m.emit(code.Load, v.slot)
			m.emit(code.Box, v.slot)
		}
	}
	m.begin(variables...)
	m.statements(block)
}

// variable is that of a node (Var, Catch, or a parameter), with a slot of its own.
func (m maker) variable(n *api.Node) variable {
	_, boxed := m.whole.shared[n]
	return variable{name: n.Text, slot: m.slot(), boxed: boxed}
}

// declare makes a variable of what is taken: in a new box each time, if it lies in one.
func (m maker) declare(n *api.Node) {
	v := m.variable(n)
	if v.boxed {
		m.emit(code.Box, v.slot)
	} else {
		m.emit(code.Store, v.slot)
	}
	m.begin(v)
}

// lambda makes a Lambda's function, and a closure of it, which holds what that turned out to see.
func (m maker) lambda(n *api.Node) {
	number := m.whole.reserve(lambdaName)
	inner := maker{unit: &unit{around: m.unit, class: m.class}, whole: m.whole}
	inner.function(n)
	inner.finish(number)
	if !inner.packs() {
		m.fetch(inner.held)
		m.emit(code.Closure, number, len(inner.held))
		return
	}
	packs := 0
	for pack := range slices.Chunk(inner.held, api.MaxList) {
		m.fetch(pack)
		m.emit(code.List, len(pack), code.Packed)
		packs++
	}
	m.emit(code.Closure, number, packs)
}

// fetch gets what a closure is to hold: boxes, not what is in them.
func (m maker) fetch(held []place) {
	for _, p := range held {
		op := code.Load
		if p.held {
			op = code.Cap
		}
		m.emit(op, p.at)
	}
}

// packs: does a closure of it hold packs, since there is more than it can hold one by one?
func (u *unit) packs() bool { return len(u.held) > api.MaxList }

// pack makes it look for what is held in packs, if its closures hold these. (How much is held is known at its end alone.)
func (u *unit) pack() {
	if !u.packs() {
		return
	}
	for i, in := range u.made.Code {
		switch in.Op {
		case code.Cap, code.LoadCap, code.StoreCap:
			u.made.Code[i].A, u.made.Code[i].B = in.A/api.MaxList, in.A%api.MaxList+1
		}
	}
}
