package check

import (
	"testing"

	"rewind/api"
)

const sample = `fn late() {}
class C < B { field e; init(a, b) {} last() {} }
print(1);
class A { field a; field b; init(a) {} get() {} }
class B < A { field c; get() {} own() {} }
fn early(a) {}
class D {}
class E < A { field c; }
`

// 2.3: classes and functions in order, with what is above.
func TestTable(t *testing.T) {
	want := "C<2[a b c e](init last); A<-1[a b](init get); B<1[a b c](get own); D<-1[](); E<1[a b c](); fn late; fn early"
	if got := told(mustCheck(t, sample)); got != want {
		t.Errorf("%s, want %s", got, want)
	}
	for _, text := range []string{"", "print(1);"} {
		if got := told(mustCheck(t, text)); got != "" {
			t.Errorf("%q: %s, want nothing", text, got)
		}
	}
}

// 2.3: the table's nodes are the program's.
func TestTableNodes(t *testing.T) {
	n := mustParse(t, sample)
	table, err := Check(n)
	if err != nil {
		t.Fatal(err)
	}
	if table.Fns[0] != n.Kids[0] || table.Fns[1] != n.Kids[5] {
		t.Error("functions are not the program's nodes")
	}
	class := n.Kids[1]
	if table.Classes[0].Methods[0] != class.Kids[1] || table.Classes[0].Methods[1] != class.Kids[2] {
		t.Error("methods are not the program's nodes")
	}
}

// 2.3: the numbers of classes and functions.
func TestNumbers(t *testing.T) {
	table := mustCheck(t, sample)
	for i, name := range []string{"C", "A", "B", "D", "E"} {
		if got := table.Class(name); got != i {
			t.Errorf("Class(%s): %d, want %d", name, got, i)
		}
	}
	for i, name := range []string{"late", "early"} {
		if got := table.Fn(name); got != i {
			t.Errorf("Fn(%s): %d, want %d", name, got, i)
		}
	}
	for _, name := range []string{"", "a", "get", "early", "F"} {
		if got := table.Class(name); got != -1 {
			t.Errorf("Class(%q): %d, want -1", name, got)
		}
	}
	for _, name := range []string{"", "a", "get", "A", "Late"} {
		if got := table.Fn(name); got != -1 {
			t.Errorf("Fn(%q): %d, want -1", name, got)
		}
	}
}

// 2.3: the nearest method, and in which class it stands.
func TestMethod(t *testing.T) {
	table := mustCheck(t, sample)
	for _, c := range []struct {
		class string
		name  string
		at    string
	}{
		{"C", "init", "C"}, {"C", "last", "C"}, {"C", "get", "B"}, {"C", "own", "B"},
		{"B", "init", "A"}, {"B", "get", "B"}, {"B", "own", "B"}, {"B", "last", ""},
		{"A", "init", "A"}, {"A", "get", "A"}, {"A", "own", ""}, {"A", "late", ""}, {"A", "a", ""},
		{"D", "init", ""}, {"D", "get", ""}, {"E", "get", "A"}, {"E", "", ""}, {"none", "get", ""},
	} {
		m, at := table.Method(table.Class(c.class), c.name)
		want := table.Class(c.at)
		if at != want || (m == nil) != (want == -1) {
			t.Errorf("Method(%s, %s): %v in %d, want %d", c.class, c.name, m, at, want)
			continue
		}
		if m != nil && (m.Kind != api.Method || m.Text != c.name || !has(table.Classes[at].Methods, m)) {
			t.Errorf("Method(%s, %s): %s, of line %d", c.class, c.name, m.Text, m.Line)
		}
	}
	for _, class := range []int{-2, -1, 5, 6, 1 << 40, -1 << 40} {
		if m, at := table.Method(class, "get"); m != nil || at != -1 {
			t.Errorf("Method(%d, get): %v, %d, want nil, -1", class, m, at)
		}
	}
}

func has(l []*api.Node, n *api.Node) bool {
	for _, m := range l {
		if m == n {
			return true
		}
	}
	return false
}

// P1: every call ends, whatever the table is.
func TestBentTables(t *testing.T) {
	round := mustCheck(t, "class A { m() {} } class B < A {}")
	round.Classes[0].Above = 1
	if m, at := round.Method(0, "k"); m != nil || at != -1 {
		t.Errorf("Method of a round table: %v, %d", m, at)
	}
	round.Classes[0].Above = 7
	if m, at := round.Method(1, "k"); m != nil || at != -1 {
		t.Errorf("Method of a bent table: %v, %d", m, at)
	}
	for _, table := range []*Table{nil, {}} {
		m, at := table.Method(0, "m")
		if table.Class("A") != -1 || table.Fn("f") != -1 || m != nil || at != -1 {
			t.Errorf("an empty table has something: %v, %d", m, at)
		}
	}
}
