package compile

import (
	"rewind/api"
	"rewind/code"
)

func (m maker) statements(l []*api.Node) {
	for _, n := range l {
		switch n.Kind {
		case api.Var, api.Set, api.If, api.While, api.Return, api.Throw, api.Try, api.Print, api.Do:
			m.statement(n)
		}
		// Classes and functions, which stand among the program's own, do nothing there.
	}
}

// statement makes one; there are no values on the stack ahead of it and behind it.
func (m maker) statement(n *api.Node) {
	begin := m.here()
	m.emit(code.Stop, n.Line)
	switch n.Kind {
	case api.Var:
		m.value(n.Kids[0])
		m.declare(n)
	case api.Set:
		m.set(n.Kids[0], n.Kids[1])
	case api.If:
		m.choice(n)
	case api.While:
		m.loop(n, begin)
	case api.Return:
		m.leave(n)
	case api.Try:
		m.attempt(n.Kids[0], n.Kids[1])
	case api.Do:
		m.value(n.Kids[0])
		m.emit(code.Pop)
	default:
		m.simple(n)
	}
}

// block makes statements in a scope of their own.
func (m maker) block(n *api.Node) {
	m.open()
	m.statements(n.Kids)
	m.close()
}

func (m maker) set(target, value *api.Node) {
	if target.Kind == api.Name {
		m.value(value)
		m.store(target.Text)
		return
	}
	m.values(target.Kids)
	m.value(value)
	if target.Kind == api.Get {
		m.emit(code.SetGet, m.whole.text(target.Text))
	} else {
		m.emit(code.SetElem)
	}
}

func (m maker) choice(n *api.Node) {
	m.value(n.Kids[0])
	otherwise := m.ahead(code.Unless)
	m.block(n.Kids[1])
	if len(n.Kids) == 2 {
		m.land(otherwise)
		return
	}
	end := m.ahead(code.Jump)
	m.land(otherwise)
	m.block(n.Kids[2])
	m.land(end)
}

// loop goes back to its Stop: it is told each time the value is asked.
func (m maker) loop(n *api.Node, begin int) {
	m.value(n.Kids[0])
	end := m.ahead(code.Unless)
	m.block(n.Kids[1])
	m.emit(code.Jump, begin)
	m.land(end)
}

func (m maker) leave(n *api.Node) {
	if len(n.Kids) == 0 {
		m.emit(code.Nil)
	} else {
		m.value(n.Kids[0])
	}
	m.emit(code.Return)
}

// attempt makes a Try. The handlers of those within it stand ahead of its own: the first one that spans what throws catches it.
func (m maker) attempt(block, catch *api.Node) {
	from := m.here()
	m.block(block)
	to := m.here()
	end := m.ahead(code.Jump)
	m.made.Handlers = append(m.made.Handlers, code.Handler{From: from, To: to, Target: m.here()})
	m.open()
	m.emit(code.Caught, catch.Line)
	m.declare(catch)
	m.statements(catch.Kids[0].Kids)
	m.close()
	m.land(end)
}
