package check

import (
	"testing"

	"rewind/api"
)

// 2.2: a name is declared once in a scope; scopes are the program's, functions', blocks'.
func TestTwiceDeclared(t *testing.T) {
	checkFails(t, []fails{
		{"var a = 1;\nvar a = 2;", api.ErrTwice, 2},
		{"var a = 1;\nvar b = 2;\nvar b = 3;\nvar a = 3;", api.ErrTwice, 3},
		{"if (true) { var a = 1;\nvar a = 1; }", api.ErrTwice, 2},
		{"if (true) {} else { var a = 1;\nvar a = 1; }", api.ErrTwice, 2},
		{"while (true) { var a = 1;\nvar a = 1; }", api.ErrTwice, 2},
		{"try { var a = 1;\nvar a = 1; } catch (e) {}", api.ErrTwice, 2},
		{"fn f(a,\na) {}", api.ErrTwice, 2},
		{"fn f(a, b, c,\nb) {}", api.ErrTwice, 2},
		{"fn f(a) {\nvar a = 1; }", api.ErrTwice, 2},
		{"fn f() { var a = 1;\nvar a = 1; }", api.ErrTwice, 2},
		{"class A { m(a,\na) {} }", api.ErrTwice, 2},
		{"class A { m(a) {\nvar a = 1; } }", api.ErrTwice, 2},
		{"var f = fn(a,\na) {};", api.ErrTwice, 2},
		{"var f = fn(a) {\nvar a = 1; };", api.ErrTwice, 2},
		{"var f = fn() { var a = 1;\nvar a = 1; };", api.ErrTwice, 2},
		{"fn f() { if (true) { var a = 1; }\nvar b = 1;\nvar b = 2; }", api.ErrTwice, 3},
	})
	checkRight(t, []string{
		"var a = 1; if (true) { var a = 2; if (true) { var a = 3; } }",
		"if (true) { var a = 1; } else { var a = 2; }\nvar a = 3;",
		"while (true) { var a = 1; }\nwhile (true) { var a = 1; }",
		"try { var a = 1; } catch (e) { var a = 1; }",
		"fn f(a) { if (true) { var a = 1; } }\nfn g(a) {}\nvar a = 1;",
		"var a = 1; var f = fn(a) { return a; };",
		"var a = 1; var f = fn() { var a = 2; return fn(a) { return a; }; };",
		"fn f() {}\nvar f = 1;",
		"class A { m(m) {} k(m) { var k = 1; } }",
	})
}

// 2.2: Catch's name is in one scope with its block's statements, and in no other.
func TestCatchName(t *testing.T) {
	checkFails(t, []fails{
		{"try {} catch (e) {\nvar e = 1; }", api.ErrTwice, 2},
		{"try {} catch (e) { print(e); }\nprint(e);", api.ErrName, 2},
		{"try {\nprint(e); } catch (e) {}", api.ErrName, 2},
		{"try { var a = 1; } catch (e) {\nprint(a); }", api.ErrName, 2},
	})
	checkRight(t, []string{
		"try {} catch (e) { print(e); e = 2; if (true) { var e = 1; } }",
		"var e = 1; try {} catch (e) { print(e); }",
		"try {} catch (e) { try {} catch (e) { print(e); } print(e); }",
		"try {} catch (e) { var f = fn() { return e; }; }",
	})
}

// 2.2: a Name is declared around, so far.
func TestNames(t *testing.T) {
	checkFails(t, []fails{
		{"print(a);", api.ErrName, 1},
		{"\n\nprint(1 +\na);", api.ErrName, 4},
		{"print(a);\nvar a = 1;", api.ErrName, 1},
		{"var a =\na;", api.ErrName, 2},
		{"var a = 1; if (true) {\nvar b = a; }\nprint(b);", api.ErrName, 3},
		{"if (true) { var a = 1; } else {\nprint(a); }", api.ErrName, 2},
		{"while (a) {\nvar a = 1; }", api.ErrName, 1},
		{"a = 1;", api.ErrName, 1},
		{"a.b = 1;", api.ErrName, 1},
		{"a[1] = 1;", api.ErrName, 1},
		{"var a = 1;\na[b] = 1;", api.ErrName, 2},
		{"var a = 1;\na.b = b;", api.ErrName, 2},
		{"return a;", api.ErrState, 1},
		{"fn f() { return a; }", api.ErrName, 1},
		{"throw a;", api.ErrName, 1},
		{"print(len(a));", api.ErrName, 1},
		{"print(!a);", api.ErrName, 1},
		{"print(-a);", api.ErrName, 1},
		{"print([1, a]);", api.ErrName, 1},
		{"print(a.b);", api.ErrName, 1},
		{"print(a.b());", api.ErrName, 1},
		{"print([1].b(a));", api.ErrName, 1},
		{"print([1][a]);", api.ErrName, 1},
		{"print(true || a);", api.ErrName, 1},
		// A class, a function and a field are no variables.
		{"class A {}\nprint(A);", api.ErrName, 2},
		{"fn f() {}\nprint(f);", api.ErrName, 2},
		{"fn f() {}\nf = 1;", api.ErrName, 2},
		{"fn f() {}\nprint(f.a);", api.ErrName, 2},
		{"class A { field a; m() {\nprint(a); } }", api.ErrName, 2},
	})
	checkRight(t, []string{
		"var a = 1; print(a); a = 2; a.b = a; a[a] = a;",
		"var a = 1; if (a) { print(a); while (a) { print(a); } }",
		"fn f(a, b) { var c = a + b; return c; }",
		"class A { m(a) { var b = a; return b; } }",
		"var a = 1; if (true) { var a = a + 1; print(a); }",
		"print(1.b); print([].c());",
	})
}

// 2.2: a Fn and a Method see nothing around them, a Lambda all that is declared so far.
func TestSeen(t *testing.T) {
	checkFails(t, []fails{
		{"var a = 1;\nfn f() { print(a); }", api.ErrName, 2},
		{"var a = 1;\nclass A { m() { print(a); } }", api.ErrName, 2},
		{"class A { m(a) {} k() {\nprint(a); } }", api.ErrName, 2},
		{"fn f(a) {}\nprint(a);", api.ErrName, 2},
		{"var f = fn() {\nreturn a; };\nvar a = 1;", api.ErrName, 2},
		{"var f = fn() {\nreturn f; };", api.ErrName, 2},
		{"var f = fn() {\nreturn f(); };", api.ErrName, 2},
		{"var f = fn(a) { var b = 1; };\nprint(a);", api.ErrName, 2},
		{"var f = fn(a) { var b = 1; };\nprint(b);", api.ErrName, 2},
		{"var a = 1;\nfn f() { return fn() {\nreturn a; }; }", api.ErrName, 3},
	})
	checkRight(t, []string{
		"var a = 1; var f = fn(b) { if (true) { return a + b; } };",
		"fn f(a) { var b = 1; return fn(c) { return fn() { return a + b + c; }; }; }",
		"class A { m(a) { return fn() { return this.m(a); }; } }",
		"while (true) { var a = 1; try {} catch (e) { var f = fn() { return [a, e]; }; } }",
		"var f = nil; f = fn() { return f(); };",
	})
}

// 2.2: a Call of a Name that no variable has is one of a Fn, with its number of values.
func TestCalls(t *testing.T) {
	checkFails(t, []fails{
		{"\nf();", api.ErrName, 2},
		{"f(\na);", api.ErrName, 1},
		{"fn f(a) {}\nf();", api.ErrArg, 2},
		{"fn f() {}\nf(1);", api.ErrArg, 2},
		{"fn f(a, b) {}\nf(1, 2, 3);", api.ErrArg, 2},
		{"fn f(a) {}\nf(1,\nb);", api.ErrArg, 2},
		{"fn f(a) {}\nf(\nb);", api.ErrName, 3},
		{"fn f(a) {}\nprint(1 +\nf());", api.ErrArg, 3},
		{"f();\nfn f(a) {}", api.ErrArg, 1},
		{"fn f(a) { f(); }", api.ErrArg, 1},
		{"class A { m() {} }\nm();", api.ErrName, 2},
		{"class A {}\nA();", api.ErrName, 2},
		{"if (true) { var f = 1; }\nf();", api.ErrName, 2},
		{"fn f(a) {}\nif (true) { var f = 1; f(); }\nf();", api.ErrArg, 3},
		{"fn f() {}\nf()(\na);", api.ErrName, 3},
		{"fn f() {}\nprint(f()(f));", api.ErrName, 2},
	})
	checkRight(t, []string{
		"f(1); fn f(a) { return f(a); }",
		"class A { m() { return f(1)(2, 3); } }\nfn f(a) { return g(); } fn g() {}",
		// Whatever a variable is called with, and whatever else stands ahead of `(`, is seen when it runs.
		"var f = 1; f(); f(1, 2);",
		"fn f(a) {} var f = 1; f(); f(1, 2, 3);",
		"fn f(f) { f(); f(1, 2); }",
		"fn f(a) {} try {} catch (f) { f(); }",
		"fn f(a) {} var g = fn(f) { f(); };",
		"[1](); 1(2); fn f() { 1()(); }",
	})
}

// 2.2: This and Super stand in methods, and in the Lambdas there.
func TestThisAndSuper(t *testing.T) {
	checkFails(t, []fails{
		{"\nprint(this);", api.ErrState, 2},
		{"this.a = 1;", api.ErrState, 1},
		{"fn f() {\nreturn this; }", api.ErrState, 2},
		{"var f = fn() {\nreturn this; };", api.ErrState, 2},
		{"class A { m() { return this; } }\nthis.m();", api.ErrState, 2},
		{"\nsuper.m();", api.ErrState, 2},
		{"class A { m() {} }\nclass B < A {}\nfn f() { super.m(); }", api.ErrState, 3},
		{"var f = fn() {\nsuper.m(); };", api.ErrState, 2},
		{"class A { m() {\nsuper.m(); } }", api.ErrState, 2},
		{"class A { m() { return fn() {\nsuper.m(); }; } }", api.ErrState, 2},
		{"class A {}\nclass B < A { m() {\nsuper.m(); } }", api.ErrMissing, 3},
		{"class A { field m; k() {} }\nclass B < A { m() {\nsuper.m(); } }", api.ErrMissing, 3},
		{"class B < A { m() {\nsuper.m(); } }\nclass A {}", api.ErrMissing, 2},
		{"class A { init() {} }\nclass B < A { m() { return fn() {\nsuper.n(); }; } n() {} }", api.ErrMissing, 3},
		{"class A { m() {} }\nclass B < A { m() { super.m(\na); } }", api.ErrName, 3},
		{"class A {}\nclass B < A { m() { super.m(\na); } }", api.ErrMissing, 2},
	})
	checkRight(t, []string{
		"class A { m() { this.a = this; if (true) { return fn() { return fn() { return this; }; }; } } }",
		"class A { m() {} }\nclass B < A { k() { return super.m(); } }",
		"class A { m() {} }\nclass B < A {}\nclass C < B { m() { return fn() { return super.m(); }; } }",
		"class B < A { m() { super.m(); } }\nclass A { m() {} }",
		// How many values a method takes is seen when it runs.
		"class A { m(a) {} }\nclass B < A { m() { super.m(); super.m(1, 2); } }",
	})
}

// 2.2: New has a class, and the values that its init takes.
func TestNew(t *testing.T) {
	checkFails(t, []fails{
		{"\nnew A();", api.ErrMissing, 2},
		{"fn A() {}\nvar A = 1;\nnew A();", api.ErrMissing, 3},
		{"new A(\na);", api.ErrMissing, 1},
		{"class A {}\nnew A(1);", api.ErrArg, 2},
		{"class A { field a; }\nnew A(1);", api.ErrArg, 2},
		{"class A { init(a) {} }\nnew A();", api.ErrArg, 2},
		{"class A { init(a) {} }\nnew A(1, 2);", api.ErrArg, 2},
		{"class A { init() {} }\nnew A(\na);", api.ErrArg, 2},
		{"class A { init(a) {} }\nnew A(\na);", api.ErrName, 3},
		{"class A { init(a) {} }\nclass B < A {}\nclass C < B {}\nnew C();", api.ErrArg, 4},
		{"class A { init(a) {} }\nclass B < A { init() {} }\nnew B(1);", api.ErrArg, 3},
		{"class A { init() {} }\nclass B < A { init(a) {} }\nnew A(1);", api.ErrArg, 3},
		{"fn init(a) {}\nclass A {}\nnew A(1);", api.ErrArg, 3},
	})
	checkRight(t, []string{
		"new A(); class A {}",
		"class A { init(a, b) {} }\nnew A(1, new A(2, 3));",
		"class A { init(a) {} }\nclass B < A {}\nclass C < B {}\nnew C(1);",
		"class A { init(a) {} }\nclass B < A { init() {} }\nnew B(); new A(1);",
		"class A { m() { return new A(); } }\nfn f() { return fn() { return new A(); }; }",
	})
}

// 2.2: Return stands in functions.
func TestReturn(t *testing.T) {
	checkFails(t, []fails{
		{"\nreturn;", api.ErrState, 2},
		{"if (true) {\nreturn 1; }", api.ErrState, 2},
		{"while (true) { try {} catch (e) {\nreturn; } }", api.ErrState, 2},
		{"fn f() { return; }\nreturn;", api.ErrState, 2},
		{"var f = fn() { return; };\nreturn;", api.ErrState, 2},
		{"return\na;", api.ErrState, 1},
	})
	checkRight(t, []string{
		"fn f() { return; }",
		"fn f() { while (true) { if (true) { return 1; } } }",
		"class A { init() { return 5; } }",
		"var f = fn() { try { return 1; } catch (e) { return e; } };",
	})
}

// 2.2: all code as it stands, each node ahead of what is within it.
func TestCodeInOrder(t *testing.T) {
	checkFails(t, []fails{
		{"fn f() {\nprint(a); }\nprint(b);", api.ErrName, 2},
		{"print(b);\nfn f() {\nprint(a); }", api.ErrName, 1},
		{"print(b);\nclass A { m() {\nprint(a); } }", api.ErrName, 1},
		{"class A { m() {\nprint(this.x(a)); }\nm2() { return b; } }\nprint(c);", api.ErrName, 2},
		{"var a = 1;\nvar a =\nb;", api.ErrTwice, 2},
		{"fn f(a,\na) {\nprint(b); }", api.ErrTwice, 2},
		{"a =\nb;", api.ErrName, 1},
		{"if (\na) {\nprint(b); }", api.ErrName, 2},
		{"while (true) {\nprint(a); }\nreturn;", api.ErrName, 2},
		{"try {\nprint(a); } catch (e) {\nreturn; }", api.ErrName, 2},
		{"print(\na +\nthis);", api.ErrName, 2},
		{"print(\nthis +\na);", api.ErrState, 2},
		{"print(\nnew Z(a).b(\nreturned));", api.ErrMissing, 2},
	})
}
