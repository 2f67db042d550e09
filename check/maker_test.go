package check

import (
	"strconv"
	"strings"
)

// maker writes programs, the same ones each time, of few names: some are right, and what may be wrong comes up.
type maker struct{ seed uint64 }

func (m *maker) n(below int) int {
	m.seed = m.seed*6364136223846793005 + 1442695040888963407
	return int(m.seed >> 33 % uint64(below))
}

func (m *maker) one(l ...string) string { return l[m.n(len(l))] }

func (m *maker) name() string { return m.one("a", "b", "c", "f", "g") }

func (m *maker) class() string { return m.one("A", "B", "C", "D") }

func (m *maker) method() string { return m.one("init", "get", "put") }

// many are up to so many parts, with something between.
func (m *maker) many(most int, between string, part func() string) string {
	var l []string
	for range m.n(most + 1) {
		l = append(l, part())
	}
	return strings.Join(l, between)
}

func (m *maker) program() string {
	return "var a = 1;\n" + m.many(5, "\n", func() string {
		switch m.n(5) {
		case 0:
			return m.classText()
		case 1:
			return "fn " + m.name() + m.function(2)
		}
		return m.statement(2)
	})
}

func (m *maker) classText() string {
	under := ""
	if m.n(2) == 0 {
		under = " < " + m.class()
	}
	fields := m.many(2, "\n", func() string { return "field " + m.name() + ";" })
	methods := m.many(2, "\n", func() string { return m.method() + m.function(1) })
	return "class " + m.class() + under + " {\n" + fields + "\n" + methods + "\n}"
}

// function is one behind its name.
func (m *maker) function(deep int) string {
	return "(" + m.many(2, ",\n", m.name) + ") " + m.block(deep)
}

func (m *maker) block(deep int) string {
	return "{\n" + m.many(2, "\n", func() string { return m.statement(deep) }) + "\n}"
}

func (m *maker) statement(deep int) string {
	if deep == 0 {
		return "print(" + m.value(1) + ");"
	}
	switch m.n(10) {
	case 0, 1, 2:
		return "var " + m.name() + " =\n" + m.value(deep) + ";"
	case 3:
		return m.name() + m.one("", ".a", "[0]") + " =\n" + m.value(deep) + ";"
	case 4:
		return "if (" + m.value(1) + ") " + m.block(deep-1) + m.one("", " else "+m.block(deep-1))
	case 5:
		return "while (" + m.value(1) + ") " + m.block(deep-1)
	case 6:
		return "try " + m.block(deep-1) + " catch (" + m.name() + ") " + m.block(deep-1)
	case 7:
		return m.one("return;", "return\n"+m.value(1)+";", "throw "+m.value(1)+";")
	}
	return "print(" + m.value(deep) + ");"
}

func (m *maker) value(deep int) string {
	if deep == 0 {
		return m.one("1", "nil", "a", "a", m.name())
	}
	v := func() string { return m.value(deep - 1) }
	switch m.n(14) {
	case 0:
		return m.one("this", "this.a", "this."+m.method()+"("+v()+")")
	case 1:
		return "super." + m.method() + "(" + m.many(2, ",\n", v) + ")"
	case 2, 3:
		return "new " + m.class() + "(" + m.many(2, ",\n", v) + ")"
	case 4, 5:
		return m.name() + "(" + m.many(2, ",\n", v) + ")"
	case 6:
		return "fn" + m.function(deep-1)
	case 7:
		return "[" + m.many(2, ",\n", v) + "]"
	case 8:
		return v() + m.one(" +\n", " ||\n", " <\n") + v()
	}
	return m.one(strconv.Itoa(m.n(9)), v(), v())
}
