package compile

import (
	"slices"
	"strings"
	"sync"
	"testing"

	"rewind/api"
	"rewind/check"
	"rewind/code"
	"rewind/plain"
	"rewind/syntax"
)

// sample is a program that has something of each kind.
const sample = `class B < A { field c; init(x) { super.init(x); this.c = fn(y) { return this.a + x + y; }; } }
class A { field a; field b; init(x) { this.a = x; } m() { return this.b; } }
fn f(x, y) { while (x < 3) { x = x + 1; } return [x, y, "text", -5, input(), nil]; }
var b = new B(1);
try { print(f(0, true || false)[1]); print((b.c)(2)); b.m().z = 3; } catch (e) { print(fn() { return e; }()); }
if (len("abc") == 3 && !false) { var l = [1]; l[0] = 2 * 3 / 4 % 5 - 6; }
`

// The whole, 2: an image's bytes are it again, and one byte that turned is seen.
func TestBytes(t *testing.T) {
	d := &drawer{seed: 7}
	texts := []string{"", "print(1);", sample, strings.Repeat("1;", 599), "var f=" + manyHeld(53, lists) + ";", "print(9223372036854775808);"}
	for range 30 {
		texts = append(texts, d.program())
	}
	for _, text := range texts {
		n, err := syntax.Parse(text)
		if err != nil {
			continue
		}
		m, err := Compile(n)
		if err != nil {
			continue
		}
		b := code.Encode(m)
		again, err := code.Decode(b)
		if err != nil || !same(m, again) {
			t.Fatalf("%.300q: its bytes are another image's, error %d at %d", text, api.Tell(err), line(err))
		}
		for at := range b {
			was := b[at]
			b[at] = was + byte(1+d.n(255))
			if again, err := code.Decode(b); err == nil {
				t.Fatalf("%.300q: byte %d turned: %v", text, at, again)
			}
			b[at] = was
		}
	}
}

// What takes most bytes, variables that are handed on through Lambdas within each other, can be read again, too.
func TestManyBytes(t *testing.T) {
	text := each(53, func(s string) string { return "var " + s + "=1;" }) +
		strings.Repeat("["+nested(9, "fn(){return ", lists(short(53)), ";}")+"];", 8)
	m := mustCompile(t, text)
	b := code.Encode(m)
	if again, err := code.Decode(b); err != nil || !same(m, again) || len(b) < 10_000 {
		t.Errorf("%d bytes: error %d at %d", len(b), api.Tell(err), line(err))
	}
}

// The whole, 1: line feeds ahead of a program shift its lines.
func TestShifted(t *testing.T) {
	d := &drawer{seed: 8}
	for range 300 {
		text := d.program()
		n, err := syntax.Parse("\n\n\n" + text)
		if err != nil {
			continue
		}
		m, err := Compile(mustParse(t, text))
		other, otherErr := Compile(n)
		if api.Tell(err) != api.Tell(otherErr) || err != nil && line(otherErr) != line(err)+3 {
			t.Fatalf("%s\nerror %d at %d, shifted %d at %d", text, api.Tell(err), line(err), api.Tell(otherErr), line(otherErr))
		}
		if err != nil {
			continue
		}
		for i := range m.Funcs {
			for j := range m.Funcs[i].Code {
				if in := &m.Funcs[i].Code[j]; in.Op == code.Stop || in.Op == code.Caught {
					in.A += 3
				}
			}
		}
		if !same(m, other) {
			t.Fatalf("%s\nshifted it is made into something else", text)
		}
	}
}

// P1: any node of a program may be handed in.
func TestAnyNode(t *testing.T) {
	var look func(n *api.Node)
	look = func(n *api.Node) {
		m, err := Compile(n)
		if _, want := check.Check(n); api.Tell(err) != api.Tell(want) || (m == nil) != (err != nil) {
			t.Errorf("node of kind %d: %v, error %d, want %d", n.Kind, m, api.Tell(err), api.Tell(want))
		}
		if m != nil {
			wantRuns(t, "a node", m)
		}
		Shared(n)
		for _, k := range n.Kids {
			look(k)
		}
	}
	look(mustParse(t, sample))
	d := &drawer{seed: 10}
	for range 100 {
		if n, err := syntax.Parse(d.program()); err == nil {
			look(n)
		}
	}
}

// P4: what is handed in stays as it was; what comes out is fresh, and no two lists of it share memory.
func TestFresh(t *testing.T) {
	n, kept := mustParse(t, sample), mustCompile(t, sample)
	for i := range kept.Classes {
		m, err := Compile(n)
		if err != nil || !same(m, kept) {
			t.Fatalf("another image, error %d", api.Tell(err))
		}
		for j := range m.Classes {
			c := &m.Classes[j]
			_, _, _ = append(c.Fields, "more"), append(c.Names, "more"), append(c.Methods, -1) // into what stands behind the lists
		}
		if !same(m, kept) {
			t.Errorf("two lists share memory")
		}
		clear(m.Classes[i].Fields)
		clear(m.Classes[i].Names)
		clear(m.Classes[i].Methods)
		m.Classes[i] = kept.Classes[i]
		if !same(m, kept) {
			t.Errorf("class %d shares memory with another one", i)
		}
	}
	for i := range kept.Funcs {
		m, _ := Compile(n)
		for _, f := range m.Funcs {
			_, _, _ = append(f.Code, code.Instr{}), append(f.Handlers, code.Handler{}), append(f.Vars, code.Var{})
		}
		_, _, _ = append(m.Funcs, code.Func{}), append(m.Consts, code.Const{}), append(m.Classes, code.Class{})
		clear(m.Funcs[i].Code)
		clear(m.Funcs[i].Handlers)
		clear(m.Funcs[i].Vars)
		m.Funcs[i] = kept.Funcs[i]
		if !same(m, kept) {
			t.Errorf("function %d shares memory with another one", i)
		}
		clear(m.Funcs)
		clear(m.Consts)
		clear(m.Classes)
	}
	if !plain.Same(n, mustParse(t, sample)) {
		t.Errorf("Compile changed what it was given")
	}
}

// P4: what a call answers hangs on its arguments alone, however many there are at the same time.
func TestAtTheSameTime(t *testing.T) {
	n, want := mustParse(t, sample), mustCompile(t, sample)
	bad := mustParse(t, sample+"print(z);")
	shared := sharedNames(t, sample)
	var wait sync.WaitGroup
	for range 8 {
		wait.Go(func() {
			for range 50 {
				if m, err := Compile(n); err != nil || !same(m, want) {
					t.Errorf("another image")
				}
				if _, err := Compile(bad); api.Tell(err) != api.ErrName || line(err) != 7 {
					t.Errorf("another error: %d at %d", api.Tell(err), line(err))
				}
				if got := sharedNames(t, sample); got != shared {
					t.Errorf("another answer: %s, want %s", got, shared)
				}
			}
		})
	}
	wait.Wait()
}

// Constants stand in an image once each, whatever they are of.
func TestConstants(t *testing.T) {
	m := mustCompile(t, "class A { field s; } var a = new A(); a.s = \"s\"; print(a.s + \"s\" + \"t\"); print(1 + 1 + 0); print(\"1\");")
	want := []code.Const{{Text: true, S: "s"}, {Text: true, S: "t"}, {N: 1}, {}, {Text: true, S: "1"}}
	for _, c := range want {
		if !slices.Contains(m.Consts, c) {
			t.Errorf("%v is not there", c)
		}
	}
	if len(m.Consts) != len(want) {
		t.Errorf("%v, want %v", m.Consts, want)
	}
}
