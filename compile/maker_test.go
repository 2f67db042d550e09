package compile

import (
	"slices"
	"strconv"
	"strings"
)

// drawer writes programs, the same ones each time: most are right, and do something ahead of their end.
type drawer struct {
	seed uint64
	// scopes are the names that are seen, the innermost scope last.
	scopes [][]string
	// functions: how many one is in; in: the class in whose methods one is ("": in none).
	functions int
	in        string
}

func (d *drawer) n(below int) int {
	d.seed = d.seed*6364136223846793005 + 1442695040888963407
	return int(d.seed >> 33 % uint64(below))
}

func (d *drawer) one(l ...string) string { return l[d.n(len(l))] }

// many are up to so many parts, with something between.
func (d *drawer) many(most int, between string, part func() string) string {
	var l []string
	for range d.n(most + 1) {
		l = append(l, part())
	}
	return strings.Join(l, between)
}

// name is one that is seen, if there is any; seldom another one.
func (d *drawer) name() string {
	var seen []string
	for _, s := range d.scopes {
		seen = append(seen, s...)
	}
	if len(seen) == 0 {
		return d.one("1", "nil")
	}
	if d.n(150) == 0 {
		return "z"
	}
	return d.one(seen...)
}

// fresh is a name that is not declared in the innermost scope; it is from then on.
func (d *drawer) fresh() string {
	inner := &d.scopes[len(d.scopes)-1]
	for {
		name := d.one("a", "b", "c") + strconv.Itoa(len(*inner)/2)
		if !slices.Contains(*inner, name) || d.n(300) == 0 {
			*inner = append(*inner, name)
			return name
		}
	}
}

// program is the text of one: four classes, two functions, and statements.
func (d *drawer) program() string {
	d.scopes, d.functions, d.in = [][]string{{}}, 0, ""
	parts := []string{
		d.class("A", "", "field p;", "init(x) { this.p = x; "+d.own("A", "x")+" }", "get() { "+d.own("A")+" return this.p; }"),
		d.class("B", "A", "get() { "+d.own("B")+" return super.get(); }", "put(x, y) { "+d.own("B", "x", "y")+" }"),
		d.class("C", "B", "init(x) { super.init(x); "+d.own("C", "x")+" }", "all(x) { return fn(y) { "+d.own("C", "x", "y")+" return super.get() + x; }; }"),
		d.class("D", "", "get() { return fn() { return fn() { return this; }; }; }"),
		"fn f(x) { " + d.own("", "x") + " return x; }",
		"fn g(x, y) { " + d.own("", "x", "y") + " }",
	}
	// Classes and functions stand anywhere among the statements, these in their order.
	at := 0
	for range 2 + d.n(4) {
		at += d.n(len(parts) - at + 1)
		parts = slices.Insert(parts, at, d.careful(2))
		at++
	}
	return strings.Join(parts, "\n")
}

// class is the text of one; its fields' names hang on its own one.
func (d *drawer) class(name, under string, members ...string) string {
	if under != "" {
		under = " < " + under
	}
	return "class " + name + under + " { field " + strings.ToLower(name) + ";\n" + strings.Join(members, "\n") + "\n}"
}

// own are a function's statements, which see its parameters alone.
func (d *drawer) own(class string, params ...string) string {
	scopes, functions, in := d.scopes, d.functions, d.in
	d.scopes, d.functions, d.in = [][]string{params}, 1, class
	s := d.many(2, " ", func() string { return d.careful(1) })
	d.scopes, d.functions, d.in = scopes, functions, in
	return s
}

// block are statements in a scope of their own, in which some names are declared already.
func (d *drawer) block(deep int, names ...string) string {
	d.scopes = append(d.scopes, names)
	s := "{ " + d.many(2, "\n", func() string { return d.careful(deep) }) + " }"
	d.scopes = d.scopes[:len(d.scopes)-1]
	return s
}

func (d *drawer) statement(deep int) string {
	if deep < 0 {
		return "print(" + d.value(1) + ");"
	}
	switch d.n(16) {
	case 0, 1, 2, 3:
		v := d.plain(deep + 1)
		return "var " + d.fresh() + " = " + v + ";"
	case 4, 5:
		if len(d.scopes[0]) == 0 {
			return "print(nil);"
		}
		return d.name() + d.one("", "", ".p", ".b", "[0]", "[1]") + " = " + d.value(deep) + ";"
	case 6:
		return "if (" + d.condition() + ") " + d.block(deep-1) + d.one("", " else "+d.block(deep-1))
	case 7:
		return d.loop(deep)
	case 8, 9, 10:
		return d.attempt(deep)
	case 11:
		if d.functions > 0 {
			return d.one("return;", "return "+d.value(deep)+";")
		}
		return "throw " + d.value(1) + ";"
	case 12:
		return "(" + d.value(deep+1) + ")" + d.one("", "()", "(1)") + ";"
	}
	return "print(" + d.value(deep+1) + ");"
}

// careful is a statement out of which nothing is thrown, most often.
func (d *drawer) careful(deep int) string {
	s := d.statement(deep)
	if strings.HasPrefix(s, "var") || d.n(6) == 0 {
		return s
	}
	return "try { " + s + " } catch (x) { print(x); }"
}

// plain is a value that throws nothing, most often.
func (d *drawer) plain(deep int) string {
	switch d.n(9) {
	case 0:
		return d.value(deep)
	case 1, 2:
		return d.value(0)
	case 3:
		return "[" + d.many(3, ", ", func() string { return d.value(0) }) + "]"
	case 4, 5:
		return d.one("new A(1)", "new B(2)", "new C(3)", "new D()")
	}
	return d.lambda(deep + 1)
}

// attempt is a Try, the block of which may end it.
func (d *drawer) attempt(deep int) string {
	s := "try " + d.block(deep-1)
	if d.n(2) == 0 {
		s = s[:len(s)-1] + "throw " + d.value(1) + "; }"
	}
	name := d.one("a0", "b0", "x")
	return s + "\ncatch (" + name + ") " + d.block(deep-1, name)
}

// loop goes round few times, most often.
func (d *drawer) loop(deep int) string {
	v := d.fresh()
	s := d.block(deep - 1)
	return "var " + v + " = 0;\nwhile (" + v + " < 3) { " + v + " = " + v + " + 1;" + s[1:]
}

func (d *drawer) condition() string {
	if d.n(10) == 0 {
		return d.value(1)
	}
	return d.value(1) + " == " + d.value(1) + d.one("", " || true", " && "+d.value(0)+" == nil")
}

func (d *drawer) value(deep int) string {
	if deep <= 0 {
		return d.one("1", "2", "0", "\"s\"", "true", "false", "nil", "[]", "input()", d.name(), d.name(), d.name(), d.name(), d.name())
	}
	v := func() string { return d.value(deep - 1) }
	switch d.n(20) {
	case 0, 1:
		return v() + d.one(" + ", " - ", " * ", " / ", " % ", " < ", " == ") + v()
	case 2:
		return "(" + v() + " == " + v() + d.one(" || ", " && ") + v() + " == " + v() + ")"
	case 3:
		return d.one("-", "!") + "(" + v() + ")"
	case 4, 5:
		return "[" + d.many(3, ", ", v) + "]"
	case 6:
		return d.name() + d.one("[0]", "[1]", ".p", ".a", ".b")
	case 7:
		return "len(" + v() + ")"
	case 8, 9:
		return d.one("new A("+v()+")", "new B("+v()+")", "new C("+v()+")", "new D()")
	case 10, 11:
		return d.one(d.name(), v()) + d.one(".get()", ".put("+v()+", "+v()+")", ".all("+v()+")", ".all(1)(2)")
	case 12:
		return d.one("f("+v()+")", "g("+v()+", "+v()+")")
	case 13:
		return d.name() + "(" + d.many(2, ", ", v) + ")"
	case 14:
		return d.methodsOnly()
	case 15, 16, 17:
		return d.lambda(deep)
	}
	return v()
}

// methodsOnly is what may stand in methods alone.
func (d *drawer) methodsOnly() string {
	switch d.in {
	case "B", "C":
		return d.one("this", "this.p", "super.get()", "this.get()")
	case "A":
		return d.one("this", "this.p", "this.a")
	}
	return d.name()
}

func (d *drawer) lambda(deep int) string {
	params := []string{"u", "v", "a0"}[:d.n(4)]
	d.functions++
	b := d.block(deep-2, slices.Clone(params)...)
	if d.n(2) == 0 {
		d.scopes = append(d.scopes, params)
		b = b[:len(b)-1] + "return " + d.value(deep-1) + "; }"
		d.scopes = d.scopes[:len(d.scopes)-1]
	}
	d.functions--
	return "fn(" + strings.Join(params, ", ") + ") " + b
}
