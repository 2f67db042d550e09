package check

import (
	"testing"

	"rewind/api"
)

// 2.1: nothing is no program, and has no line.
func TestNil(t *testing.T) {
	table, err := Check(nil)
	if table != nil || err != error(api.ErrMissing) {
		t.Errorf("Check(nil): %v, %v, want nil, ErrMissing without a place", table, err)
	}
}

// 2.1: names of classes and functions.
func TestTwiceNamed(t *testing.T) {
	checkFails(t, []fails{
		{"class A {}\nclass A {}", api.ErrTwice, 2},
		{"class A {}\nclass B {}\n\nclass A {}\nclass B {}", api.ErrTwice, 4},
		{"fn f() {}\nfn f() {}", api.ErrTwice, 2},
		{"fn f() {}\nprint(1);\nfn f(a) {}", api.ErrTwice, 3},
		{"fn f() {}\nfn g() {}\nfn g() {}\nfn f() {}", api.ErrTwice, 3},
	})
	checkRight(t, []string{
		"class A {}\nfn A() {}",
		"class A { field A; A() {} }\nfn A(A) {}\nvar A = A(new A());",
		"fn f() {}\nfn F() {}\nclass a {}\nclass A {}",
	})
}

// 2.1: what a class is under.
func TestUnder(t *testing.T) {
	checkFails(t, []fails{
		{"\nclass A < B {}", api.ErrMissing, 2},
		{"fn B() {}\nvar B = 1;\nclass A < B {}", api.ErrMissing, 3},
		{"class A < B {}\nclass B < C {}", api.ErrMissing, 2},
		{"class A < B {}\nclass B < C {}\nclass C < D {}", api.ErrMissing, 3},
		{"class A < A {}", api.ErrCycle, 1},
		{"class A < B {}\nclass B < A {}", api.ErrCycle, 1},
		{"class D {}\nclass C < B {}\nclass B < A {}\nclass A < B {}", api.ErrCycle, 2},
		{"class C < B {}\nclass B < A {}\nclass A < A {}", api.ErrCycle, 1},
		{"class A {}\nclass B < C {}\nclass C < D {}\nclass D < B {}", api.ErrCycle, 2},
	})
	checkRight(t, []string{
		"class A {}\nclass B < A {}\nclass C < B {}",
		"class C < B {}\nclass B < A {}\nclass A {}",
		"class B < A {}\nclass C < A {}\nclass A {}",
	})
}

// 2.1: of classes of one name the last one's Under counts for ErrCycle (and only there).
func TestUnderOfOneName(t *testing.T) {
	checkFails(t, []fails{
		{"class A {}\nclass A < A {}", api.ErrCycle, 1},
		{"class B < A {}\nclass A {}\nclass A < B {}", api.ErrCycle, 1},
		{"class A < A {}\nclass A {}", api.ErrTwice, 2},
		{"class B < A {}\nclass A < B {}\nclass A {}", api.ErrTwice, 3},
		{"class A < C {}\nclass A {}", api.ErrMissing, 1},
		{"class A {}\nclass A < C {}", api.ErrTwice, 2},
	})
}

// 2.1: as they stand, each wholly ahead of the next one.
func TestHeadsInOrder(t *testing.T) {
	checkFails(t, []fails{
		{"fn f() {}\nfn f() {}\nclass A < B {}", api.ErrTwice, 2},
		{"class A < B {}\nfn f() {}\nfn f() {}", api.ErrMissing, 1},
		{"class A < A {}\nfn f() {}\nfn f() {}", api.ErrCycle, 1},
		{"class A < A {}\nclass B < C {}", api.ErrCycle, 1},
		{"class B < C {}\nclass A < A {}", api.ErrMissing, 1},
		{"class A {}\nclass A < B {}\nclass C < C {}", api.ErrTwice, 2},
		// All heads are ahead of all fields, and of all code.
		{"class A { field a; field a; }\nprint(b);\nclass B < C {}", api.ErrMissing, 3},
		{"print(b);\nclass A { field a;\nfield a; }", api.ErrTwice, 3},
		{"print(b);\nclass A { m() {}\nm() {} }", api.ErrTwice, 3},
		{"print(b);\nfn f() {}\nfn f() {}", api.ErrTwice, 3},
	})
}

// 2.1: fields and methods.
func TestFields(t *testing.T) {
	checkFails(t, []fails{
		{lines("class A {", "field a;", "field a; }"), api.ErrTwice, 3},
		{lines("class A {", "field a;", "field b;", "field a;", "field b; }"), api.ErrTwice, 4},
		{lines("class A { field a; }", "class B < A {", "field b;", "field a; }"), api.ErrTwice, 4},
		{lines("class B < A {", "field b;", "field a; }", "class A { field a; }"), api.ErrTwice, 3},
		{lines("class A { field a; }", "class B < A {}", "class C < B {", "field a; }"), api.ErrTwice, 4},
		// Two above: it is told of the class, whatever it has of its own.
		{lines("class B < A {", "field b; }", "class A {", "field a;", "field a; }"), api.ErrTwice, 1},
		{lines("class C < B {", "field a; }", "class B < A {", "field a; }", "class A { field a; }"), api.ErrTwice, 1},
		{lines("class A { field a; }", "class C < B {}", "class B < A {", "field a; }"), api.ErrTwice, 2},
		{lines("class A { field a; }", "class B < A {", "field a; }", "class C < B {}"), api.ErrTwice, 3},
		// Class by class, fields ahead of methods.
		{lines("class A { field a;", "m() {}", "m() {} }", "class B < A {", "field a; }"), api.ErrTwice, 3},
		{lines("class B < A {", "field a; }", "class A { field a;", "m() {}", "m() {} }"), api.ErrTwice, 2},
		{lines("class A {", "field a;", "field a;", "m() {}", "m() {} }"), api.ErrTwice, 3},
		{lines("class A {", "m() {}", "k() {}", "k(a) {}", "m() {} }"), api.ErrTwice, 4},
	})
	checkRight(t, []string{
		"class A { field a; }\nclass B { field a; }",
		"class C { field b; }\nclass A < C { field a; }\nclass B < C { field a; }",
		"class A { field m; m() {} }\nclass B < A { m() {} }",
		"class A { m() {} }\nclass B < A { field m; }",
	})
}
