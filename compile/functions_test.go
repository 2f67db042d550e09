package compile

import (
	"fmt"
	"strings"
	"testing"

	"rewind/api"
)

// 4.4, 4.5: Lambdas keep the variables that they see, whoever changes them.
func TestLambdas(t *testing.T) {
	checkPrints(t, []prints{
		{"var a = 1; var f = fn() { a = a + 1; return a; }; print(f()); print(a); a = 10; print(f()); print(a);", "2 2 11 11"},
		{"fn make() { var n = 0; return fn() { n = n + 1; return n; }; } var f = make(); var g = make(); print(f()); print(f()); print(g()); print(f());", "1 2 1 3"},
		// Two that see one variable.
		{"fn make() { var n = 0; return [fn() { n = n + 1; }, fn() { return n; }]; } var l = make(); l[0](); l[0](); print(l[1]());", "2"},
		// Within each other, of several functions around, parameters and `this` among them.
		{"class A { field p; m(x) { var y = 2; this.p = 100; return fn(z) { var w = 4; return fn() { x = x + 1; w = w + 1; return x + y + z + w + this.p; }; }; } } var f = new A().m(1)(3); print(f()); print(f());", "112 114"},
		{"var a = 1; var f = fn() { return fn() { return fn() { a = a + 1; return a; }; }; }; print(f()()()); print(a);", "2 2"},
		{"class A { field n; init(n) { this.n = n; } all(l) { return fn() { return fn() { return this.get(l); }; }; } get(l) { return this.n + len(l); } } print(new A(5).all([1, 2])()());", "7"},
		// A parameter that a Lambda changes, and one beside it that none sees.
		{"fn f(a, b, c) { var g = fn() { b = b + a; }; g(); g(); c = c + b; return c; } print(f(1, 2, 10));", "14"},
		// Catch's name.
		{"var f = nil; try { throw 5; } catch (e) { f = fn() { e = e + 1; return e; }; print(e); f(); print(e); } print(f());", "5 6 7"},
		// One that is declared behind a Lambda that sees another one of its name.
		{"var x = 1; if (true) { var f = fn() { return x; }; var x = 2; print(f()); print(x); }", "1 2"},
		{"var x = 1; if (true) { var f = fn() { x = x + 1; return fn() { return x; }; }; var x = 10; var g = fn() { return x; }; print(f()()); print(g()); } print(x);", "2 10 2"},
		{"fn f(x) { if (true) { var g = fn() { return x; }; var x = g() + 1; return [g(), x]; } } var l = f(1); print(l[0]); print(l[1]);", "1 2"},
		// Names of a Lambda's own hide those around.
		{"var x = 1; var f = fn(x) { x = x + 1; return x; }; print(f(5)); print(x);", "6 1"},
		{"var x = 1; var f = fn() { var y = x; var x = 7; return x + y; }; print(f()); print(x);", "8 1"},
		// A variable hides a function of its name, from where it is declared on.
		{"fn f() { return 1; } print(f()); var f = fn() { return 2; }; print(f()); print(fn() { return f(); }());", "1 2 2"},
		{"fn f() { return 1; } fn g() { return f(); } var f = 5; print(g());", "1"},
		// Lambdas that call themselves, by a variable that is there ahead of them.
		{"var f = nil; f = fn(n) { if (n == 0) { return 0; } return n + f(n - 1); }; print(f(4));", "10"},
		{"fn twice(f) { return fn(x) { return f(f(x)); }; } print(twice(twice(fn(x) { return x * 2; }))(1));", "16"},
		// Called right where they stand.
		{"print((fn(a, b) { return a - b; })(5, 3)); print([fn() { return 4; }][0]());", "2 4"},
	})
}

// 4.4: each time round a While its variables are new ones, and so are a function's each time it is called.
func TestNewEachTime(t *testing.T) {
	checkPrints(t, []prints{
		{"var l = []; var i = 0; while (i < 3) { var j = i * 10; l = l + [fn() { j = j + 1; return j; }]; i = i + 1; } print(l[0]()); print(l[1]()); print(l[2]()); print(l[0]());", "1 11 21 2"},
		{"var l = []; var i = 0; while (i < 2) { i = i + 1; l = l + [fn() { return i; }]; } print(l[0]()); print(l[1]());", "2 2"},
		{"var l = []; var i = 0; while (i < 2) { try { throw i; } catch (e) { l = l + [fn() { e = e + 10; return e; }]; } i = i + 1; } print(l[0]()); print(l[1]()); print(l[0]());", "10 11 20"},
		{"fn f(a) { return fn() { a = a + 1; return a; }; } var g = f(1); var h = f(1); g(); print(g()); print(h());", "3 2"},
		{"var l = []; var i = 0; while (i < 2) { if (true) { var k = i; var f = fn() { return k; }; l = l + [f]; } i = i + 1; } print(l[0]()); print(l[1]());", "0 1"},
	})
}

// 4.5: New, Send, Super, `init` and fields, through several classes.
func TestClasses(t *testing.T) {
	family := `class C < B { field c; init(x) { super.init(x); this.c = x + 2; } get() { return super.get() + this.c; } }
class A { field a; init(x) { this.a = x; } get() { return this.a; } who() { return "A"; } name() { return this.who(); } }
class D < C { who() { return "D" + super.who(); } up() { return fn() { return fn() { return super.get() + this.c; }; }; } }
class B < A { field b; init(x) { super.init(x); this.b = x + 1; } get() { return super.get() + this.b; } who() { return "B" + super.who(); } }
`
	checkPrints(t, []prints{
		{family + "var d = new D(10); print(d.a); print(d.b); print(d.c); print(d.get()); print(d.name()); print(d.up()()());", "10 11 12 33 DBA 45"},
		{family + "var c = new C(1); print(c.get()); print(c.name()); print(c);", "6 BA C#1"},
		{family + "var a = new A(1); print(a.get()); print(a.who());", "1 A"},
		// It is the instance, whatever `init` returns.
		{"class A { field p; init() { this.p = 1; return 5; } } print(new A()); print(new A().p);", "A#1 1"},
		// `init` is a method like others, too.
		{"class A { field p; init(x) { this.p = x; return x; } } var a = new A(1); print(a.init(2)); print(a.p);", "2 2"},
		// What stands above is looked for from the class in which Super stands, not from the instance's.
		{"class A { m() { return 1; } } class B < A { m() { return 10 + super.m(); } } class C < B {} class D < C { m() { return 100 + super.m(); } } print(new D().m());", "111"},
		{"class A { m(x, y) { return x - y; } } class B < A { m(x) { return super.m(x, 1); } } print(new B().m(5));", "4"},
		// A field that is a function is called by parentheses around it.
		{"class A { field f; f(x) { return x; } } var a = new A(); a.f = fn(x) { return x + 1; }; print(a.f(1)); print((a.f)(1));", "1 2"},
		// Classes without init, without anything.
		{"class A {} class B < A {} print(new B()); print(new A() == new A());", "B#1 false"},
	})
	checkDoes(t, []does{
		{text: "class A { field f; } var a = new A(); a.f = fn() {};\na.f();", want: "S1 S1 S2 T2:name X:name"},
		{text: "class A { m(x) {} } class B < A { m() {\nsuper.m();\n} }\nnew B().m();", want: "S4 S2 T2:arity X:arity"},
		// What `init` throws leaves no instance, but its identity is given.
		{text: "class A { init() { throw this; } } try { new A(); } catch (e) { print(e); } print([]);", want: "S1 S1 S1 T1:A#1 C1 S1 O:A#1 S1 O:list#2 D"},
	})
}

// 4.5: MaxCalls calls may be under way, not one more, whatever is called; what throws is the function that calls.
func TestDepth(t *testing.T) {
	deep := api.MaxCalls
	for _, c := range []struct{ before, call string }{
		{"fn f(n) { if (n == 1) { return 0; } return f(n - 1); }\n", "f(N)"},
		{"var f = nil; f = fn(n) { if (n == 1) { return 0; } return f(n - 1); };\n", "f(N)"},
		{"class A { m(n) { if (n == 1) { return 0; } return this.m(n - 1); } }\n", "new A().m(N)"},
		{"class A { m(n) { return n; } } class B < A { m(n) { if (n == 2) { return super.m(n); } return this.m(n - 1); } }\n", "new B().m(N)"},
		{"class A { init(n) { if (n == 1) { return 0; } new A(n - 1); } }\n", "new A(N)"},
	} {
		for n, want := range map[int]int{deep: api.Done, deep + 1: api.Dead} {
			text := c.before + "print(" + strings.Replace(c.call, "N", fmt.Sprint(n), 1) + ");"
			got := run(t, mustCompile(t, text), nil)
			last := got[len(got)-1]
			if last.Kind != want || want == api.Dead && last.Text != "depth" {
				t.Errorf("%q: %s", text, told(got))
			}
			if told(got) != told(walk(mustParse(t, text), nil)) {
				t.Errorf("%q: the program does something else", text)
			}
		}
	}
	checkDoes(t, []does{
		// A New without `init` is no call: it is made, however deep one is.
		{text: "class E {} fn f(n) { if (n == 1) { print(new E()); return 0; } return f(n - 1); } f(25);", want: "S1" + strings.Repeat(" S1 S1", 24) + " S1 S1 O:E#1 S1 D"},
		// One with `init` has not been made, when depth is thrown: no identity is given.
		{text: "class E { init() {} } fn f(n) { if (n == 1) {\ntry { new E(); } catch (e) { print(e); print([]); } return 0; } return f(n - 1); } f(25);",
			want: "S2" + strings.Repeat(" S1 S2", 24) + " S1 S2 S2 T2:depth C2 S2 O:depth S2 O:list#1 S2 D"},
		// Arity is thrown ahead of depth.
		{text: "class A { m(a) {} } fn f(n) { if (n == 1) {\nnew A().m(); } return f(n - 1); } f(25);",
			want: "S2" + strings.Repeat(" S1 S2", 24) + " S1 S2 T2:arity X:arity"},
	})
}
