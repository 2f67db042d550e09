package syntax

import (
	"strconv"
	"strings"

	"rewind/api"
)

// maker makes programs, the same ones each time.
type maker struct{ seed uint64 }

func (m *maker) n(below int) int {
	m.seed = m.seed*6364136223846793005 + 1442695040888963407
	return int(m.seed >> 33 % uint64(below))
}

func node(kind int, text string, kids ...*api.Node) *api.Node {
	return &api.Node{Kind: kind, Text: text, Kids: kids}
}

func (m *maker) name() string { return []string{"a", "b", "fnn", "_x1", "print_"}[m.n(5)] }

// gap is what stands between two tokens.
func (m *maker) gap() string { return []string{" ", " ", "\n", "  ", " \n "}[m.n(5)] }

func (m *maker) nodes(most int, part func() *api.Node) (l []*api.Node) {
	for range m.n(most + 1) {
		l = append(l, part())
	}
	return l
}

func (m *maker) program() *api.Node {
	return node(api.Program, "", m.nodes(4, func() *api.Node {
		switch m.n(6) {
		case 0:
			return m.class()
		case 1:
			return node(api.Fn, m.name(), m.params(), m.block(2))
		}
		return m.statement(2)
	})...)
}

func (m *maker) class() *api.Node {
	n := node(api.Class, m.name(), m.nodes(2, func() *api.Node { return node(api.Field, m.name()) })...)
	n.Kids = append(n.Kids, m.nodes(2, func() *api.Node { return node(api.Method, m.name(), m.params(), m.block(1)) })...)
	if m.n(2) == 0 {
		n.Under = m.name()
	}
	return n
}

func (m *maker) params() *api.Node {
	return node(api.Params, "", m.nodes(3, func() *api.Node { return node(api.Name, m.name()) })...)
}

func (m *maker) block(deep int) *api.Node {
	return node(api.Block, "", m.nodes(2, func() *api.Node { return m.statement(deep) })...)
}

func (m *maker) statement(deep int) *api.Node {
	v := func() *api.Node { return m.value(3) }
	if deep == 0 {
		return node(api.Do, "", v())
	}
	switch m.n(10) {
	case 0:
		return node(api.Var, m.name(), v())
	case 1:
		return node(api.Set, "", m.target(), v())
	case 2:
		return node(api.If, "", append([]*api.Node{v(), m.block(deep - 1)}, m.nodes(1, func() *api.Node { return m.block(deep - 1) })...)...)
	case 3:
		return node(api.While, "", v(), m.block(deep-1))
	case 4:
		return node(api.Return, "", m.nodes(1, v)...)
	case 5:
		return node(api.Throw, "", v())
	case 6:
		return node(api.Try, "", m.block(deep-1), node(api.Catch, m.name(), m.block(deep-1)))
	case 7:
		return node(api.Print, "", v())
	}
	return node(api.Do, "", v())
}

func (m *maker) target() *api.Node {
	switch m.n(3) {
	case 0:
		return node(api.Name, m.name())
	case 1:
		return node(api.Get, m.name(), m.value(2))
	}
	return node(api.Elem, "", m.value(2), m.value(1))
}

func (m *maker) value(deep int) *api.Node {
	v := func() *api.Node { return m.value(deep - 1) }
	if deep == 0 {
		return m.leaf()
	}
	switch m.n(12) {
	case 0, 1, 2, 3:
		return node(api.Or+m.n(9), "", v(), v())
	case 4, 5:
		return node(api.Neg+m.n(2), "", v())
	case 6:
		return node(api.Get, m.name(), v())
	case 7:
		return node(api.Send, m.name(), append([]*api.Node{v()}, m.nodes(2, v)...)...)
	case 8:
		return node(api.Elem, "", v(), v())
	case 9:
		return node(api.Call, "", append([]*api.Node{v()}, m.nodes(2, v)...)...)
	case 10:
		return node(api.Lambda, "", m.params(), m.block(0))
	}
	switch m.n(4) {
	case 0:
		return node(api.New, m.name(), m.nodes(2, v)...)
	case 1:
		return node(api.Super, m.name(), m.nodes(2, v)...)
	case 2:
		return node(api.List, "", m.nodes(2, v)...)
	}
	return node(api.Len, "", v())
}

func (m *maker) leaf() *api.Node {
	switch m.n(8) {
	case 0:
		return &api.Node{Kind: api.Int, N: m.n(100)}
	case 1:
		return node(api.Str, []string{"", "s", "\n", `\"`, "((", "fn("}[m.n(6)])
	case 2:
		return node(api.True+m.n(4), "")
	case 3:
		return node(api.Input, "")
	}
	return node(api.Name, m.name())
}

// loud writes a program with parentheses around every value, and gaps between all tokens.
func loud(n *api.Node, gap func() string) string {
	var l []string
	loudly(n, func(s ...string) { l = append(l, s...) })
	var b strings.Builder
	for _, s := range l {
		b.WriteString(s + gap())
	}
	return b.String()
}

func loudly(n *api.Node, put func(...string)) {
	list := func(l []*api.Node) {
		for i, k := range l {
			if i > 0 {
				put(",")
			}
			loudly(k, put)
		}
	}
	all := func(open, shut string, l []*api.Node) {
		put(open)
		for _, k := range l {
			loudly(k, put)
		}
		put(shut)
	}
	paren := func(l []*api.Node) { put("("); list(l); put(")") }
	kid := func(i int) { loudly(n.Kids[i], put) }
	closed := func(s ...string) { put(s...); list(n.Kids); put(";") }
	switch n.Kind {
	case api.Program:
		for i := range n.Kids {
			kid(i)
		}
	case api.Class:
		put("class", n.Text)
		if n.Under != "" {
			put("<", n.Under)
		}
		all("{", "}", n.Kids)
	case api.Field:
		put("field", n.Text, ";")
	case api.Method:
		put(n.Text)
		kid(0)
		kid(1)
	case api.Fn:
		put("fn", n.Text)
		kid(0)
		kid(1)
	case api.Params:
		put("(")
		for i, k := range n.Kids {
			if i > 0 {
				put(",")
			}
			put(k.Text)
		}
		put(")")
	case api.Block:
		all("{", "}", n.Kids)
	case api.Var:
		closed("var", n.Text, "=")
	case api.Set:
		kid(0)
		put("=")
		kid(1)
		put(";")
	case api.If, api.While:
		put(map[int]string{api.If: "if", api.While: "while"}[n.Kind])
		paren(n.Kids[:1])
		kid(1)
		if len(n.Kids) > 2 {
			put("else")
			kid(2)
		}
	case api.Return:
		closed("return")
	case api.Throw:
		closed("throw")
	case api.Print:
		put("print")
		paren(n.Kids)
		put(";")
	case api.Do:
		closed()
	case api.Try:
		put("try")
		kid(0)
		kid(1)
	case api.Catch:
		put("catch", "(", n.Text, ")")
		kid(0)
	default:
		put("(")
		loudValue(n, put, kid, paren, list)
		put(")")
	}
}

func loudValue(n *api.Node, put func(...string), kid func(int), paren, list func([]*api.Node)) {
	switch n.Kind {
	case api.Int:
		put(strconv.Itoa(n.N))
	case api.Str:
		put(`"` + strings.NewReplacer("\n", `\n`, `"`, `\"`, `\`, `\\`).Replace(n.Text) + `"`)
	case api.True, api.False, api.Nil, api.This:
		put([]string{"true", "false", "nil", "this"}[n.Kind-api.True])
	case api.Name:
		put(n.Text)
	case api.New:
		put("new", n.Text)
		paren(n.Kids)
	case api.Super:
		put("super", ".", n.Text)
		paren(n.Kids)
	case api.List:
		put("[")
		list(n.Kids)
		put("]")
	case api.Lambda:
		put("fn")
		kid(0)
		kid(1)
	case api.Input:
		put("input", "(", ")")
	case api.Len:
		put("len")
		paren(n.Kids)
	case api.Neg, api.Not:
		put([]string{"-", "!"}[n.Kind-api.Neg])
		kid(0)
	case api.Get:
		kid(0)
		put(".", n.Text)
	case api.Send:
		kid(0)
		put(".", n.Text)
		paren(n.Kids[1:])
	case api.Elem:
		kid(0)
		put("[")
		kid(1)
		put("]")
	case api.Call:
		kid(0)
		paren(n.Kids[1:])
	default:
		kid(0)
		put([]string{"||", "&&", "==", "<", "+", "-", "*", "/", "%"}[n.Kind-api.Or])
		kid(1)
	}
}
