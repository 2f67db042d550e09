package inspect

import (
	"slices"
	"strings"
)

// drawer writes programs with which nothing is wrong, whatever they do: few names, so that variables of one name are often within each other, in many scopes.
type drawer struct {
	die
	// scopes are the names that are seen, the innermost scope last.
	scopes [][]string
	// within: is it a function's code, or a method's?
	function, method bool
}

func (d *drawer) one(l ...string) string { return l[d.n(len(l))] }

// some are up to so many parts.
func (d *drawer) some(most int, between string, part func() string) string {
	var l []string
	for range d.n(most + 1) {
		l = append(l, part())
	}
	return strings.Join(l, between)
}

// name is one that is seen; a number, if there is none.
func (d *drawer) name() string {
	if all := slices.Concat(d.scopes...); len(all) > 0 {
		return d.one(all...)
	}
	return "7"
}

// fresh is a name that its scope has not yet; false: it has them all.
func (d *drawer) fresh() (string, bool) {
	inner := d.scopes[len(d.scopes)-1]
	name := d.one("a", "b", "c")
	return name, !slices.Contains(inner, name)
}

func (d *drawer) declare(name string) {
	inner := &d.scopes[len(d.scopes)-1]
	*inner = append(*inner, name)
}

// program is the text of one.
func (d *drawer) program() string {
	d.scopes, d.function, d.method = [][]string{{}}, false, false
	parts := []string{
		"class A { field p; field q;\ninit(a) { this.p = a;\n" + d.body(true, "a") + "}\nget() {\n" + d.body(true) + "return this.p; } }",
		"class B < A { field r;\nget() {\n" + d.body(true) + "return super.get(); }\nput(b, a) {\n" + d.body(true, "b", "a") + "} }",
		"class C { get() { return fn(a) {\n" + d.body(true, "a") + "return [this, a]; }; } }",
		"fn f(a) {\n" + d.body(false, "a") + "return a; }",
		"fn g(c, b) {\n" + d.body(false, "c", "b") + "}",
	}
	for range 3 + d.n(5) {
		parts = append(parts, d.careful(2))
	}
	return strings.Join(parts, "\n")
}

// body is a function's that sees its parameters alone.
func (d *drawer) body(method bool, params ...string) string {
	scopes := d.scopes
	d.scopes, d.function, d.method = [][]string{params}, true, method
	s := d.some(2, "", func() string { return d.careful(1) + "\n" })
	d.scopes, d.function, d.method = scopes, false, false
	return s
}

// block are statements in a scope of their own, which has some names already.
func (d *drawer) block(deep int, names ...string) string {
	d.scopes = append(d.scopes, names)
	s := "{\n" + d.some(3, "", func() string { return d.careful(deep) + "\n" }) + "}"
	d.scopes = d.scopes[:len(d.scopes)-1]
	return s
}

// careful is a statement out of which nothing is thrown, mostly.
func (d *drawer) careful(deep int) string {
	s := d.statement(deep)
	if strings.HasPrefix(s, "var") || d.n(6) == 0 {
		return s
	}
	return "try { " + s + " } catch (" + d.one("a", "b", "c", "e") + ") { }"
}

func (d *drawer) statement(deep int) string {
	if deep < 0 {
		return d.print()
	}
	switch d.n(12) {
	case 0, 1, 2, 3:
		return d.variable(deep)
	case 4:
		return d.set(deep)
	case 5:
		return "if (" + d.value(0) + " == " + d.value(0) + d.one("", " || true") + ") " + d.block(deep-1) + d.one("", " else "+d.block(deep-1))
	case 6:
		return d.loop(deep)
	case 7, 8:
		return d.attempt(deep)
	case 9:
		return d.leave()
	case 10:
		return "(" + d.value(deep+1) + ");"
	}
	return d.print()
}

func (d *drawer) print() string { return "print(" + d.value(1) + ");" }

func (d *drawer) variable(deep int) string {
	v := d.value(deep + 1)
	name, ok := d.fresh()
	if !ok {
		return d.print()
	}
	d.declare(name)
	if d.n(6) == 0 {
		// It leads to itself.
		return "var " + name + d.one(" = [1, 2];\n"+name+"[0]", " = new B(3);\n"+name+".q") + " = " + name + ";"
	}
	return "var " + name + " = " + v + ";"
}

func (d *drawer) set(deep int) string {
	name := d.name()
	if name == "7" {
		return d.print()
	}
	return name + d.one("", ".p", ".q", ".r", "[0]", "[1]") + " = " + d.value(deep) + ";"
}

// loop goes round some times.
func (d *drawer) loop(deep int) string {
	name, ok := d.fresh()
	if !ok {
		return d.print()
	}
	d.declare(name)
	return "var " + name + " = 0;\nwhile (" + name + " < " + d.one("1", "2", "3", "200") + ") { " + name + " = " + name + " + 1;" + d.block(deep - 1)[1:]
}

// attempt is a Try whose block throws now and then.
func (d *drawer) attempt(deep int) string {
	s := "try " + d.block(deep-1)
	if d.n(2) == 0 {
		s = s[:len(s)-1] + "throw " + d.value(1) + "; }"
	}
	name := d.one("a", "b", "c", "e")
	return s + "\ncatch (" + name + ") " + d.block(deep-1, name)
}

func (d *drawer) leave() string {
	if d.function && d.n(2) == 0 {
		return d.one("return;", "return "+d.value(1)+";")
	}
	return "throw " + d.value(1) + ";"
}

func (d *drawer) value(deep int) string {
	if deep <= 0 {
		return d.one("1", "0", "\"s\"", "true", "nil", "[]", "input()", d.name(), d.name(), d.name(), d.name())
	}
	v := func() string { return d.value(deep - 1) }
	switch d.n(14) {
	case 0:
		return "(" + v() + d.one(" + ", " - ", " * ", " / ", " % ", " < ", " == ", " && ", " || ") + v() + ")"
	case 1, 2, 3:
		return "[" + d.some(3, ", ", v) + "]"
	case 4:
		return d.name() + d.one("[0]", "[1]", ".p", ".q", ".r")
	case 5, 6:
		return d.one("new A("+v()+")", "new B("+v()+")", "new C()")
	case 7:
		return d.name() + d.one(".get()", ".put("+v()+", 1)", ".get()(2)", "("+v()+")", "()")
	case 8:
		return d.one("f("+v()+")", "g("+v()+", "+v()+")")
	case 9, 10:
		return d.lambda(deep)
	case 11:
		if d.method {
			return d.one("this", "this.p", "fn() { return this; }")
		}
		return d.one("-", "!") + d.name()
	}
	return d.one(d.name(), "len("+v()+")")
}

// lambda is a function that sees all around it; some are called on the spot.
func (d *drawer) lambda(deep int) string {
	params := []string{"a", "c"}[:d.n(3)]
	function := d.function
	d.function = true
	s := "fn(" + strings.Join(params, ", ") + ") " + d.block(deep-2, slices.Clone(params)...)
	d.function = function
	return s + d.one("", "", "("+strings.Join([]string{"1", "[2]"}[:len(params)], ", ")+")")
}
