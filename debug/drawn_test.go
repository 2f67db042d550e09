package debug

import (
	"fmt"
	"slices"
	"testing"

	"rewind/api"
	"rewind/compile"
	"rewind/syntax"
	"rewind/vm"
)

// drawer writes programs with which nothing is wrong, whatever they do; their variables are a to d.
type drawer struct{ die }

func (d *drawer) one(l ...string) string { return l[d.n(len(l))] }

func (d *drawer) value(deep int) string {
	if deep == 0 || d.n(4) == 0 {
		return d.one("1", "0", "true", "nil", "\"s\"", "[]", "input()", "a", "b", "c", "d", "fn() {\nc = [a, c];\nreturn b; }")
	}
	v := func() string { return d.value(deep - 1) }
	switch d.n(9) {
	case 0, 1:
		return "(" + v() + d.one(" + ", " - ", " / ", " < ", " == ", " && ") + v() + ")"
	case 2, 3:
		return "[" + v() + ", " + v() + "]"
	case 4:
		return d.one("a", "b", "c") + d.one("[0]", "[1]", ".p", ".get()", ".put(d)", "()")
	case 5:
		return "new " + d.one("A", "B") + "(" + v() + ")"
	case 6:
		return "twice(" + v() + ")"
	case 7:
		return "deep(" + d.one("3", "30", v()) + ")"
	}
	return "len(" + v() + ")"
}

func (d *drawer) statement(deep int) string {
	switch d.n(10) {
	case 0, 1, 2:
		return d.one("a", "b", "c", "d") + " = " + d.value(2) + ";"
	case 3:
		return d.one("a", "b") + d.one(".p", "[0]", "[1]") + " = " + d.value(2) + ";"
	case 4:
		return "throw " + d.value(1) + ";"
	case 5, 6:
		return "print(" + d.value(2) + ");"
	}
	if deep == 0 {
		return "print(a);"
	}
	switch d.n(4) {
	case 0:
		return "if (" + d.value(1) + " == " + d.value(1) + ") { var a = 3;" + d.block(deep-1) + "} else {" + d.block(deep-1) + "}"
	case 1:
		return "if (true) { var i = 0; while (i < " + d.one("2", "5", "20", "400") + ") { i = i + 1;" + d.block(deep-1) + "} }"
	}
	return "try { var b = a;" + d.block(deep-1) + "}\ncatch (e) { a = [e, b];" + d.block(deep-1) + "}"
}

func (d *drawer) block(deep int) string {
	s := ""
	for range 1 + d.n(3) {
		s += "\n" + d.statement(deep)
	}
	return s + "\n"
}

func (d *drawer) program() string {
	s := "class A { field p; init(x) { this.p = x; }\nget() { return this.p; }\nput(x) { this.p = [x, this.p]; return this; } }\n" +
		"class B < A { field q; get() { this.q = [super.get()]; return this.q; } }\n" +
		"fn twice(x) { var n = x + x; return n; }\nfn deep(n) { if (n < 1) { return n; }\nvar x = deep(n - 1);\nreturn [x]; }\n" +
		"var a = " + d.one("[1, 2]", "new A(1)", "new B([])") + "; var b = [a]; var c = fn() { return a; }; var d = 0;\n"
	for range 1 + d.n(6) {
		s += "try {" + d.block(2) + "} catch (e) { print(e); }\n"
	}
	return s + d.block(1)
}

// drawn is a drawn program, and a run of it; false: it is too long to be one.
func (d *drawer) drawn(t *testing.T) (string, run, bool) {
	t.Helper()
	text := d.program()
	n, err := syntax.Parse(text)
	if err != nil {
		return text, run{}, false
	}
	image, err := compile.Compile(n)
	if err != nil {
		t.Fatalf("%.900q: no image: error %d", text, api.Tell(err))
	}
	c := vm.Config{Nursery: []int{3 + d.n(12), 60, 600}[d.n(3)], Old: []int{1 + d.n(40), 60_000}[d.n(2)]}
	for range d.n(5) {
		c.Collect = append(c.Collect, d.n(3))
	}
	return text, run{image, c, []int{7, 8, 9}[:d.n(4)]}, true
}

// 9.1: of any run, however often its machine was kept, any calls: a debugger tells what a model tells, and its machine is as one that ran there without stopping.
func TestAnyRun(t *testing.T) {
	d := &drawer{9}
	found := map[string]int{}
	for range 300 {
		text, u, ok := d.drawn(t)
		if !ok {
			found["too long"]++
			continue
		}
		m := modelOf(t, u)
		all := len(m.events)
		r := u.recorded(t, 1+d.n(1+d.n(1+d.n(api.MaxEvents))))
		debugger := made(t, r)
		for range 3 {
			wantModel(t, text, debugger, m, calls(&d.die, 60, all, m.given[all]))
			x, err := debugger.Machine()
			if err != nil {
				t.Fatalf("%s\nno machine behind %d events: %v", text, m.at, err)
			}
			if got, want := whole(x), whole(u.gone(t, m.at)); got != want {
				t.Fatalf("%s\nbehind %d events:\n%s, want\n%s", text, m.at, got, want)
			}
		}
		tally(found, m, r.Full())
	}
	for _, what := range []string{"full", "many", "deep", "done", "dead", "caught", "objects"} {
		if found[what] < 10 {
			t.Errorf("%s: %d times: what is drawn does it too seldom", what, found[what])
		}
	}
	if found["too long"] > 40 {
		t.Errorf("%d programs are too long", found["too long"])
	}
}

// tally notes what came to be.
func tally(found map[string]int, m *model, full bool) {
	note := func(what string, is bool) {
		if is {
			found[what]++
		}
	}
	has := func(kind int) bool {
		return slices.ContainsFunc(m.events, func(e api.Event) bool { return e.Kind == kind })
	}
	note("full", full)
	note("many", len(m.events) == api.MaxEvents)
	note("deep", slices.Max(m.deep) > 3)
	note("done", has(api.Done))
	note("dead", has(api.Dead))
	note("caught", has(api.Caught))
	note("objects", m.given[len(m.given)-1] > 5)
}

// The whole, 4: whenever the heap is collected, a debugger tells the same of the same calls.
func TestCollectionsAreNotSeen(t *testing.T) {
	d := &drawer{10}
	for range 60 {
		text, u, ok := d.drawn(t)
		if !ok {
			continue
		}
		u.config = tight()
		m := modelOf(t, u)
		l := calls(&d.die, 100, len(m.events), m.given[len(m.events)])
		for _, collect := range [][]int{nil, {1}, {2}, {0, 1, 2, 1}} {
			u.config = tight(collect...)
			again := *m
			wantModel(t, fmt.Sprint(text, "\nin ", u.config), u.debugger(t, 1+d.n(200)), &again, l)
		}
	}
}
