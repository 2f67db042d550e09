package replay

import (
	"slices"
	"strings"
	"testing"

	"rewind/api"
	"rewind/compile"
	"rewind/syntax"
	"rewind/vm"
)

// drawer writes programs with which nothing is wrong, whatever they do; their variables are a to d.
type drawer struct{ die }

func (d *drawer) one(l ...string) string { return l[d.n(len(l))] }

func (d *drawer) value(deep int) string {
	if deep == 0 || d.n(4) == 0 {
		return d.one("1", "0", "true", "nil", "\"s\"", "[]", "input()", "a", "b", "c", "d", "fn() { c = [a, c]; return b; }")
	}
	v := func() string { return d.value(deep - 1) }
	switch d.n(9) {
	case 0, 1:
		return "(" + v() + d.one(" + ", " - ", " / ", " < ", " == ", " && ") + v() + ")"
	case 2, 3:
		return "[" + v() + ", " + v() + "]"
	case 4:
		return d.one("a", "b", "c") + d.one("[0]", "[1]", ".p", ".get()", ".put(d)", "()")
	case 5:
		return "new " + d.one("A", "B") + "(" + v() + ")"
	case 6:
		return "twice(" + v() + ")"
	case 7:
		return "deep(" + v() + ")"
	}
	return "len(" + v() + ")"
}

func (d *drawer) statement(deep int) string {
	switch d.n(10) {
	case 0, 1, 2:
		return d.one("a", "b", "c", "d") + " = " + d.value(2) + ";"
	case 3:
		return d.one("a", "b") + d.one(".p", "[0]", "[1]") + " = " + d.value(2) + ";"
	case 4:
		return "throw " + d.value(1) + ";"
	case 5, 6:
		return "print(" + d.value(2) + ");"
	}
	if deep == 0 {
		return "print(a);"
	}
	switch d.n(4) {
	case 0:
		return "if (" + d.value(1) + " == " + d.value(1) + ") {" + d.block(deep-1) + "} else {" + d.block(deep-1) + "}"
	case 1:
		return "if (true) { var i = 0; while (i < " + d.one("2", "5", "20", "900") + ") { i = i + 1;" + d.block(deep-1) + "} }"
	}
	return "try {" + d.block(deep-1) + "}\ncatch (e) { a = [e, b];" + d.block(deep-1) + "}"
}

func (d *drawer) block(deep int) string {
	s := ""
	for range 1 + d.n(3) {
		s += "\n" + d.statement(deep)
	}
	return s + "\n"
}

func (d *drawer) program() string {
	s := "class A { field p; init(x) { this.p = x; } get() { return this.p; } put(x) { this.p = [x, this.p]; return this; } }\n" +
		"class B < A { field q; get() { this.q = [super.get()]; return this.q; } }\n" +
		"fn twice(x) { return x + x; }\nfn deep(x) { return [deep([x])]; }\n" +
		"var a = " + d.one("[1, 2]", "new A(1)", "new B([])") + "; var b = [a]; var c = fn() { return a; }; var d = 0;\n"
	for range 1 + d.n(6) {
		s += "try {" + d.block(2) + "} catch (e) { print(e); }\n"
	}
	return s + d.block(1)
}

// drawn is a run of a drawn program; false: that is too long to be one.
func (d *drawer) drawn(t *testing.T) (run, bool) {
	t.Helper()
	text := d.program()
	n, err := syntax.Parse(text)
	if err != nil {
		return run{}, false
	}
	image, err := compile.Compile(n)
	if err != nil {
		t.Fatalf("%.900q: no image: error %d", text, api.Tell(err))
	}
	c := vm.Config{Nursery: []int{1 + d.n(60), 60, 600}[d.n(3)], Old: []int{1 + d.n(150), 60_000}[d.n(2)]}
	for range d.n(5) {
		c.Collect = append(c.Collect, d.n(3))
	}
	return run{image, c, []int{7, 8, 9}[:d.n(4)]}, true
}

// 7.1: of any run, however often the machine was kept: Events and Full are those of a machine that ran to its end; behind any number of events it is as it was, and goes on as the run did.
func TestAnyRun(t *testing.T) {
	d := &drawer{8}
	found := map[string]int{}
	for round := range 1000 {
		u, ok := d.drawn(t)
		if !ok {
			found["too long"]++
			continue
		}
		events, end := u.end(t)
		r := u.recorded(t, 1+d.n(1+d.n(1+d.n(api.MaxEvents))))
		if !slices.Equal(r.Events(), events) || r.Full() != end.Full() {
			t.Fatalf("round %d: full %v, %.300s, want %.300s", round, r.Full(), told(r.Events()...), told(events...))
		}
		for range 4 {
			n := d.n(len(events) + 1)
			x := at(t, r, n)
			if got, want := whole(x), whole(u.gone(t, n)); got != want {
				t.Fatalf("round %d, behind %d events:\n%s, want\n%s", round, n, got, want)
			}
			if got := rest(x); !slices.Equal(got, events[n:]) || whole(x) != whole(end) {
				t.Fatalf("round %d, behind %d events: %.300s, want %.300s", round, n, told(got...), told(events[n:]...))
			}
		}
		tally(found, events, r.Full())
	}
	for _, what := range []string{"full", "done", "dead", "caught", "out", "objects", "many"} {
		if found[what] < 20 {
			t.Errorf("%s: %d times: what is drawn does it too seldom", what, found[what])
		}
	}
	if found["too long"] > 40 {
		t.Errorf("%d programs are too long", found["too long"])
	}
}

// tally notes what came to be.
func tally(found map[string]int, events []api.Event, full bool) {
	if full {
		found["full"]++
	}
	if len(events) == api.MaxEvents {
		found["many"]++
	}
	names := []string{api.Stop: "stop", api.Out: "out", api.Thrown: "thrown", api.Caught: "caught", api.Done: "done", api.Dead: "dead"}
	for _, e := range events {
		found[names[e.Kind]]++
		if strings.Contains(e.Text, "#") {
			found["objects"]++
		}
	}
}
