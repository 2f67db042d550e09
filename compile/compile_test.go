package compile

import (
	"fmt"
	"strings"
	"testing"

	"rewind/api"
	"rewind/code"
	"rewind/syntax"
)

// 4.1: nil instead of a program.
func TestNil(t *testing.T) {
	m, err := Compile(nil)
	if api.Tell(err) != api.ErrMissing || line(err) != noLine || m != nil {
		t.Errorf("%v, error %d at %d", m, api.Tell(err), line(err))
	}
}

// 4.1: how functions are named, and that each Fn, method and Lambda is one.
func TestNames(t *testing.T) {
	for text, want := range map[string]string{
		"":                      "main",
		"print(1);":             "main",
		"class A {}":            "main",
		"fn f() {} fn g() {}":   "main f g",
		"fn main() {} main();":  "main main",
		"class A { main() {} }": "main A.main",
		"class A { f() {} init() {} } class b < A { f() {} } fn f() {}":           "main A.f A.init b.f f",
		"var a = fn() { return fn(x) { return fn() {}; }; }; [fn() {}, fn() {}];": "main fn fn fn fn fn",
		"class A { m() { return fn() {}; } } fn f(x) { return f(fn() {}); }":      "main A.m f fn fn",
	} {
		m := mustCompile(t, text)
		if got := names(m); got != want {
			t.Errorf("%q: %s, want %s", text, got, want)
		}
	}
}

// 4.1: an image's classes are those of the program, in order; what they are above, their fields and their methods.
func TestImageClasses(t *testing.T) {
	m := mustCompile(t, `class C < B { field z; get() {} }
fn get() {}
class A { field x; field y; init() {} get() {} }
print(1);
class B < A { put(a, b) {} }
class D {}`)
	var l []string
	for _, c := range m.Classes {
		s := fmt.Sprint(c.Name, c.Above, c.Fields)
		for i, name := range c.Names {
			f := m.Funcs[c.Methods[i]]
			s += fmt.Sprint(" ", name, "=", f.Name, "/", f.Params)
		}
		l = append(l, s)
	}
	want := "C2 [x y z] get=C.get/0; A-1 [x y] init=A.init/0 get=A.get/0; B1 [x y] put=B.put/2; D-1 []"
	if got := strings.Join(l, "; "); got != want {
		t.Errorf("%s, want %s", got, want)
	}
}

// 4.1: what Check says, with its line, the first thing first.
func TestWrong(t *testing.T) {
	checkFails(t, []fails{
		{"\nprint(a);", api.ErrName, 2},
		{"var a =\na;", api.ErrName, 2},
		{"var a = 1;\nvar a = 2;", api.ErrTwice, 2},
		{"fn f(a,\na) {}", api.ErrTwice, 2},
		{"fn f() {}\nfn f() {}", api.ErrTwice, 2},
		{"class A {}\nclass A {}", api.ErrTwice, 2},
		{"class A { field a;\nfield a; }", api.ErrTwice, 2},
		{"class A { m() {}\nm() {} }", api.ErrTwice, 2},
		{"\nclass A < B {}", api.ErrMissing, 2},
		{"\nclass A < A {}", api.ErrCycle, 2},
		{"class A < B {} class B < A {}", api.ErrCycle, 1},
		{"fn f(x) {}\n\nf();", api.ErrArg, 3},
		{"f();", api.ErrName, 1},
		{"print(\nthis);", api.ErrState, 2},
		{"class A { m() {\nsuper.m(); } }", api.ErrState, 2},
		{"class A {} class B < A { m() {\nsuper.m(); } }", api.ErrMissing, 2},
		{"\nnew A();", api.ErrMissing, 2},
		{"class A { init(x) {} }\nnew A();", api.ErrArg, 2},
		{"class A {}\nnew A(1);", api.ErrArg, 2},
		{"print(1);\nreturn;", api.ErrState, 2},
		{"fn f() { print(a); }\nvar a = 1;", api.ErrName, 1},
		{"print(a);\nprint(this);\nclass A {}\nclass A {}", api.ErrTwice, 4},
	})
}

// short are so many names, as short as can be, none twice.
func short(many int) []string {
	letters := strings.Split("abcdefghijklmnopqrstuvwxyzABCDEFGHIJKLMNOPQRSTUVWXYZ_", "")
	l := append([]string{}, letters...)
	for _, a := range letters {
		for _, b := range letters {
			if a+b != "fn" && a+b != "if" {
				l = append(l, a+b)
			}
		}
	}
	return l[:many]
}

// each is a text for each of so many names, one behind the other.
func each(many int, text func(name string) string) string {
	var s strings.Builder
	for _, name := range short(many) {
		s.WriteString(text(name))
	}
	return s.String()
}

// stacked is a value that needs just so many values on the stack.
func stacked(many int) string {
	switch {
	case many > 12:
		return "1==1<1+1*[1,1,1,1,1,1,1," + stacked(many-11) + "]"
	case many > 1:
		return "[1," + stacked(many-1) + "]"
	}
	return "1"
}

// 4.1: what is too great for 3.2, and what is just not.
func TestTooGreat(t *testing.T) {
	lambdas := func(many int) string {
		return strings.Repeat("[fn(){},fn(){},fn(){},fn(){},fn(){},fn(){},fn(){}];", many/7) + strings.Repeat("[fn(){}];", many%7)
	}
	for what, c := range map[string]struct {
		most int
		text func(many int) string
	}{
		"Fns":     {249, func(many int) string { return each(many, func(s string) string { return "fn " + s + "(){}" }) }},
		"Lambdas": {249, lambdas},
		"methods": {249, func(many int) string {
			return "class A{" + each(many, func(s string) string { return s + "(){}" }) + "}"
		}},
		"classes":   {250, func(many int) string { return each(many, func(s string) string { return "class " + s + "{}" }) }},
		"constants": {1000, func(many int) string { return "nil" + each(many, func(s string) string { return "." + s }) + ";" }},
		"variables": {200, func(many int) string { return each(many, func(s string) string { return "var " + s + "=1;" }) }},
		"a function's variables": {200 - 4, func(many int) string {
			return "class A{m(p0,p1,p2){" + each(many, func(s string) string { return "var " + s + "=1;" }) + "}}"
		}},
		"values": {200, func(many int) string { return "print(" + stacked(many) + ");" }},
	} {
		mustCompile(t, c.text(c.most))
		checkFails(t, []fails{{c.text(c.most + 1), api.ErrLimit, noLine}})
		if t.Failed() {
			t.Fatalf("%s", what)
		}
	}
}

// 4.1: what Check says is told ahead of what is too great.
func TestWrongAndTooGreat(t *testing.T) {
	text := each(251, func(s string) string { return "class " + s + "{}" })
	checkFails(t, []fails{{text + "\nthis;", api.ErrState, 2}, {text + "\nclass a {}", api.ErrTwice, 2}})
}

// Variables of scopes that are left take no room.
func TestRoomAgain(t *testing.T) {
	vars := each(60, func(s string) string { return "var " + s + "=1;" })
	m := mustCompile(t, strings.Repeat("if(1==1){"+vars+"print(a);}", 5))
	if got := m.Funcs[0].Slots; got != 60 {
		t.Errorf("%d slots, want 60", got)
	}
}

// sameDone: an image does what its program does, up to the end.
func sameDone(t *testing.T, text string) string {
	t.Helper()
	got, want := run(t, mustCompile(t, text), nil), walk(mustParse(t, text), nil)
	if told(got) != told(want) {
		t.Errorf("%.300q: does %s, want %s", text, told(got), told(want))
	}
	if len(got) == 0 || got[len(got)-1].Kind != api.Done {
		t.Errorf("%.300q: it does not come to its end", text)
	}
	return outs(got)
}

// nested is a text so many times within itself.
func nested(many int, before, inner, behind string) string {
	return strings.Repeat(before, many) + inner + strings.Repeat(behind, many)
}

// 4.1: the deepest, longest and widest programs that chapter 1 lets through.
func TestGreatest(t *testing.T) {
	for text, want := range map[string]string{
		"print(" + nested(23, "!", "true", "") + ");":                                                                                                          "false",
		"print(" + nested(23, "(", "1", ")") + ");":                                                                                                            "1",
		nested(23, "if(true){", "print(1);", "}"):                                                                                                              "1",
		nested(23, "try{", "print(2);", "}catch(e){}"):                                                                                                         "2",
		"var i=0;" + nested(22, "while(i<1){", "i=1;", "}") + "print(i);":                                                                                      "1",
		"try{" + nested(22, "try{", "throw 1;", "}catch(e){throw e+1;}") + "}catch(e){print(e);}":                                                              "23",
		"print(" + nested(11, "fn(){return ", "7", ";}()") + ");":                                                                                              "7",
		"var a=1;print(" + nested(11, "fn(){return ", "a", ";}()") + ");":                                                                                      "1",
		"var a=1;" + nested(7, "[fn(x){", "a=a+x;", "}][0](2);") + "print(a);":                                                                                 "3",
		"fn f(a,b,c,d,e,f,g,h){return [a,b,c,d,e,f,g,h];}print(len(f(1,2,3,4,5,6,7,8)));":                                                                      "8",
		"class A{field a;field b;field c;field d;field e;field f;field g;field h;init(a,b,c,d,e,f,g,h){this.h=a+h;}}print(new A(1,2,3,4,5,6,7,8).h);":          "9",
		"class A{m(a,b,c,d,e,f,g,h){return fn(i,j,k,l,m,n,o,p){return [this.n(),a+p];};}n(){return 9;}}print(new A().m(1,2,3,4,5,6,7,8)(1,2,3,4,5,6,7,8)[1]);": "9",
		strings.Repeat("1;", 599):                                                      "",
		strings.Repeat("print(1);", 333):                                               strings.TrimSuffix(strings.Repeat("1 ", 333), " "),
		"print(1" + strings.Repeat("+1", 598) + ");":                                   "599",
		"print(" + strings.Repeat("-", 23) + "1);":                                     "-1",
		"print(true" + strings.Repeat("&&true", 400) + ");":                            "true",
		"class A{m(){return this;}}print(new A()" + strings.Repeat(".m()", 500) + ");": "A#1",
		"print(" + nested(22, "[1,2,3,4,5,6,7,", "8", "]") + "[7]);":                   "list#21",
		strings.Repeat(" ", 3000):                                                      "",
	} {
		if got := sameDone(t, text); got != want {
			t.Errorf("%.300q: prints %.300s, want %.300s", text, got, want)
		}
	}
}

// manyHeld is the text of Lambdas within each other, of eight parameters each (the last one of the rest), the innermost one of which uses all of them.
func manyHeld(many int, uses func(names []string) string) string {
	l := short(many)
	s, behind := "", ""
	for len(l) > 0 {
		here := l[:min(len(l), api.MaxParts)]
		s += "fn(" + strings.Join(here, ",") + "){return "
		behind += ";}"
		l = l[len(here):]
	}
	return s + "fn(){return " + uses(short(many)) + ";}" + behind
}

// lists are names in lists of eight within one.
func lists(names []string) string {
	var l []string
	for len(names) > 0 {
		here := names[:min(len(names), api.MaxParts)]
		l = append(l, "["+strings.Join(here, ",")+"]")
		names = names[len(here):]
	}
	return "[" + strings.Join(l, ",") + "]"
}

// 4.1: no program of at most 150 nodes is too great, not even if a function sees more variables around it than a closure can hold one by one.
func TestNeverTooGreat(t *testing.T) {
	held := "var f=" + manyHeld(53, lists) + ";"
	for _, text := range []string{
		held,
		each(74, func(s string) string { return "var " + s + "=1;" }),
		each(49, func(s string) string { return "fn " + s + "(){}" }),
		each(49, func(s string) string { return "class " + s + "{}" }),
		"class A{" + each(49, func(s string) string { return s + "(){}" }) + "}",
		"nil" + each(146, func(s string) string { return "." + s }) + ";",
		"print(" + stacked(95) + ");",
		strings.Repeat("[fn(){},fn(){},fn(){},fn(){},fn(){},fn(){},fn(){}];", 6),
		strings.Repeat("try{}catch(e){}", 37),
	} {
		if many := syntax.Many(mustParse(t, text)); many > 150 {
			t.Errorf("%.300q: %d nodes: more than are asked for", text, many)
		}
		mustCompile(t, text)
	}
	most := 0
	for _, f := range mustCompile(t, held).Funcs {
		for _, i := range f.Code {
			if i.Op == code.Cap || i.Op == code.LoadCap {
				most++
			}
		}
	}
	if most <= api.MaxList {
		t.Errorf("%d variables are held: too few", most)
	}
}

// Packs are made where there is no other way alone; what an instruction does not name is 0.
func TestPacks(t *testing.T) {
	for many, want := range map[int]int{1: 0, 50: 0, 51: 2, 100: 2, 101: 3} {
		got := 0
		m := mustCompile(t, each(many, func(s string) string { return "var " + s + "=1;" })+"var zz0=fn(){return "+lists(short(many)[:min(many, 64)])+"+"+lists(short(many)[min(many, 64):])+";};")
		for _, f := range m.Funcs {
			for _, i := range f.Code {
				if i.Op == code.List && i.B == code.Packed {
					got++
				} else if i.B != 0 && (i.Op != code.Closure && i.Op != code.LoadCap || many <= api.MaxList && i.Op == code.LoadCap) {
					t.Errorf("%d variables: %v", many, i)
				}
			}
		}
		if got != want {
			t.Errorf("%d variables: %d packs, want %d", many, got, want)
		}
	}
}

// What a function sees around it, it holds once.
func TestHeldOnce(t *testing.T) {
	m := mustCompile(t, "var a = 1; var b = 2; var c = fn() { a = a + b; return fn() { return a + b + a + b; }; };")
	for _, f := range m.Funcs {
		for _, i := range f.Code {
			if i.Op == code.Closure && i.B != 2 {
				t.Errorf("%s: %d are held, want 2", f.Name, i.B)
			}
		}
	}
}

// calls are a value's calls with so many numbers, eight at a time, and then with none.
func calls(many int) string {
	s := ""
	for at := 0; at < many; at += api.MaxParts {
		var l []string
		for i := at; i < min(at+api.MaxParts, many); i++ {
			l = append(l, fmt.Sprint(i))
		}
		s += "(" + strings.Join(l, ",") + ")"
	}
	return s + "()"
}

// 4.4: however many variables a function sees around it, it keeps each of them.
func TestManyHeld(t *testing.T) {
	sum := func(names []string) string { return strings.Join(names, "+") }
	for _, many := range []int{1, 8, 49, 50, 51, 52, 72} {
		got := sameDone(t, "print(("+manyHeld(many, sum)+")"+calls(many)+");")
		if want := fmt.Sprint(many * (many - 1) / 2); got != want {
			t.Errorf("%d variables: %s, want %s", many, got, want)
		}
	}
	for _, many := range []int{50, 51, 100, 101, 120} {
		text := each(many, func(s string) string { return "var " + s + "=1;" }) +
			"var zz0=fn(){return fn(){" + each(many, func(s string) string { return s + "=" + s + "+1;" }) + "};};" +
			"zz0()();zz0()();print(" + sum(short(many)) + ");"
		if got, want := sameDone(t, text), fmt.Sprint(3*many); got != want {
			t.Errorf("%d variables that are set: %s, want %s", many, got, want)
		}
	}
	// `this` among them, which lies in no box.
	text := "class zA{field p;m(a){this.p=7;" + each(60, func(s string) string { return "var y" + s + "=1;" }) +
		"return fn(){return fn(){return this.p" + each(60, func(s string) string { return "+y" + s }) + "+this.p+a;};};}}print(new zA().m(5)()());"
	if got := sameDone(t, text); got != "79" {
		t.Errorf("with this: %s, want 79", got)
	}
}
