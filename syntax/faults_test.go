package syntax

import (
	"strings"
	"testing"

	"rewind/api"
)

// 1.3: ErrForm, where the token begins that can't stand there.
func TestForm(t *testing.T) {
	checkFails(t, []fails{
		{";", api.ErrForm, 0},
		{"a", api.ErrForm, 1},
		{"a  \n ", api.ErrForm, 5},
		{"1;;", api.ErrForm, 2},
		{"{}", api.ErrForm, 0},
		{"}", api.ErrForm, 0},
		{"else {}", api.ErrForm, 0},
		{"catch (e) {}", api.ErrForm, 0},
		{"field a;", api.ErrForm, 0},
		{"class", api.ErrForm, 5},
		{"class 1 {}", api.ErrForm, 6},
		{"class class {}", api.ErrForm, 6},
		{"class A < {}", api.ErrForm, 10},
		{"class A < B", api.ErrForm, 11},
		{"class A { 1 }", api.ErrForm, 10},
		{"class A { field a }", api.ErrForm, 18},
		{"class A { field a, b; }", api.ErrForm, 17},
		{"class A { m() {} field a; }", api.ErrForm, 17},
		{"class A { m }", api.ErrForm, 12},
		{"class A { m() }", api.ErrForm, 14},
		{"class A { fn m() {} }", api.ErrForm, 10},
		{"class A { var a = 1; }", api.ErrForm, 10},
		{"class A { m() {}", api.ErrForm, 16},
		{"class A {};", api.ErrForm, 10},
		{"if (a) { class A {} }", api.ErrForm, 9},
		{"if (a) { fn f() {} }", api.ErrForm, 12},
		{"fn() {};", api.ErrForm, 2},
		{"fn f {}", api.ErrForm, 5},
		{"fn f(1) {}", api.ErrForm, 5},
		{"fn f(a b) {}", api.ErrForm, 7},
		{"fn f(a,) {}", api.ErrForm, 7},
		{"fn f(,) {}", api.ErrForm, 5},
		{"fn f(a) b;", api.ErrForm, 8},
		{"fn f() {", api.ErrForm, 8},
		{"fn f() {};", api.ErrForm, 9},
		{"var 1 = 2;", api.ErrForm, 4},
		{"var a;", api.ErrForm, 5},
		{"var a == 1;", api.ErrForm, 6},
		{"var a = ;", api.ErrForm, 8},
		{"var a = 1", api.ErrForm, 9},
		{"a = b = c;", api.ErrForm, 6},
		{"a = ;", api.ErrForm, 4},
		{"if a {}", api.ErrForm, 3},
		{"if () {}", api.ErrForm, 4},
		{"if (a {}", api.ErrForm, 6},
		{"if (a) b;", api.ErrForm, 7},
		{"if (a) {} else b;", api.ErrForm, 15},
		{"if (a) {} else if (b) {}", api.ErrForm, 15},
		{"if (a = b) {}", api.ErrForm, 6},
		{"while (a)", api.ErrForm, 9},
		{"return", api.ErrForm, 6},
		{"return 1 2;", api.ErrForm, 9},
		{"throw;", api.ErrForm, 5},
		{"print 1;", api.ErrForm, 6},
		{"print();", api.ErrForm, 6},
		{"print(1, 2);", api.ErrForm, 7},
		{"print(1)(2);", api.ErrForm, 8},
		{"a = print(1);", api.ErrForm, 4},
		{"try {} a;", api.ErrForm, 7},
		{"try {} catch e {}", api.ErrForm, 13},
		{"try {} catch () {}", api.ErrForm, 14},
		{"try {} catch (1) {}", api.ErrForm, 14},
		{"try {} catch (a, b) {}", api.ErrForm, 15},
		{"try {} catch (e)", api.ErrForm, 16},
		{"a b;", api.ErrForm, 2},
		{"a + ;", api.ErrForm, 4},
		{"a + * b;", api.ErrForm, 4},
		{"+a;", api.ErrForm, 0},
		{"a.1;", api.ErrForm, 2},
		{"a.len;", api.ErrForm, 2},
		{"a.;", api.ErrForm, 2},
		{"a[];", api.ErrForm, 2},
		{"a[1, 2];", api.ErrForm, 3},
		{"a[1);", api.ErrForm, 3},
		{"a(1,);", api.ErrForm, 4},
		{"a(1 2);", api.ErrForm, 4},
		{"a(", api.ErrForm, 2},
		{"[1, 2", api.ErrForm, 5},
		{"[1,];", api.ErrForm, 3},
		{"[,];", api.ErrForm, 1},
		{"new A;", api.ErrForm, 5},
		{"new a.b();", api.ErrForm, 5},
		{"new 1();", api.ErrForm, 4},
		{"super;", api.ErrForm, 5},
		{"super.a;", api.ErrForm, 7},
		{"super.(1);", api.ErrForm, 6},
		{"super();", api.ErrForm, 5},
		{"input;", api.ErrForm, 5},
		{"input(1);", api.ErrForm, 6},
		{"len a;", api.ErrForm, 4},
		{"len();", api.ErrForm, 4},
		{"len(a, b);", api.ErrForm, 5},
		{"();", api.ErrForm, 1},
		{"(a;", api.ErrForm, 2},
		{"(a));", api.ErrForm, 3},
		{"(a = 1);", api.ErrForm, 3},
		{"a = fn f() {};", api.ErrForm, 7},
		{"a = fn(x) x;", api.ErrForm, 10},
	})
}

// 1.2: ErrArg, at the first token of what can't be set, as soon as = is come to.
func TestArg(t *testing.T) {
	var l []fails
	for _, s := range []string{"1", "nil", "this", `"a"`, "a + 1", "-a", "!a.b", "a()", "a.b()", "[a]", "new A()", "len(a)", "input()", "super.a()", "(a + b)", "a || b[0]"} {
		l = append(l, fails{s + " = 1;", api.ErrArg, 0}, fails{"if (a) {\n  " + s + " = 1; }", api.ErrArg, 11})
	}
	checkFails(t, append(l,
		fails{"fn f() { fn() {} = 1; }", api.ErrArg, 9},
		fails{"1 = ;", api.ErrArg, 0},
		fails{"1 = $", api.ErrArg, 0},
		fails{"1 =", api.ErrArg, 0},
		fails{"a; 1 = 2; $", api.ErrArg, 3},
		fails{"$; 1 = 2;", api.ErrForm, 0},
		fails{"a $ = 2;", api.ErrForm, 2},
		fails{"1 == 2", api.ErrForm, 6},
	))
}

// 1.3: a token's own error comes when the one ahead of it was taken, and no earlier.
func TestOwnErrorsInTurn(t *testing.T) {
	long := "abcdefghijklmnopq"
	checkFails(t, []fails{
		{"$", api.ErrForm, 0},
		{long + " $", api.ErrLimit, 0},
		{"9999999999999999999;", api.ErrRange, 0},
		{"; 9999999999999999999", api.ErrForm, 0},
		{"a b " + long, api.ErrForm, 2},
		{"a " + long, api.ErrLimit, 2}, // it can't stand there, but its own error is ahead
		{"a 9999999999999999999", api.ErrRange, 2},
		{"var " + long + " $", api.ErrLimit, 4},
		{"f(1 9223372036854775809", api.ErrRange, 4},
		{"f(a, b c 9223372036854775809", api.ErrForm, 7},
	})
}

// 1.3: more than MaxParts parameters, arguments, fields.
func TestParts(t *testing.T) {
	most := many(api.MaxParts, "a", ",")
	for _, c := range []struct{ head, tail string }{
		{"fn f(", ") {}"}, {"class A { m(", ") {} }"}, {"b = fn(", ") {};"}, {"f(", ");"}, {"b.c(", ");"}, {"new A(", ");"}, {"super.m(", ");"}, {"[", "];"},
	} {
		checkParses(t, c.head+most+c.tail)
		at := len(c.head + most + ",")
		checkFails(t, []fails{
			{c.head + most + ",a" + c.tail, api.ErrLimit, at},
			{c.head + most + ",  a,b", api.ErrLimit, at + 2},
			{c.head + most + "," + c.tail, api.ErrLimit, at}, // it should begin there
			{c.head + most + ",;", api.ErrLimit, at},
			{c.head + most + ",", api.ErrLimit, at},
			{c.head + most + ",$", api.ErrForm, at},
			{c.head + most + " a" + c.tail, api.ErrForm, at},
		})
	}
}

func TestFields(t *testing.T) {
	most := "class A {" + many(api.MaxParts, " field a;", "")
	checkParses(t, most+" }", most+strings.Repeat(" m() {}", 50)+" }")
	at := len(most + " field ")
	checkFails(t, []fails{
		{most + " field a; }", api.ErrLimit, at},
		{most + " field 1; }", api.ErrLimit, at}, // it should begin there
		{most + " field ", api.ErrLimit, at},
		{most + " field $", api.ErrForm, at},
		{most + " field abcdefghijklmnopq", api.ErrLimit, at},
	})
}

// 1.3: each way to go one deeper, up to MaxDeep and beyond.
func TestDeep(t *testing.T) {
	for _, c := range []struct {
		head, tail, last string
		each, around     int // how deep head goes, and what is around it
	}{
		{"!", "", "a", 1, 2},
		{"-", "", "1", 1, 2},
		{"(", ")", "a", 1, 2},
		{"[", "]", "a", 1, 2},
		{"f(", ")", "a", 1, 2},
		{"a.m(", ")", "a", 1, 2},
		{"a[", "]", "a", 1, 2},
		{"new A(", ")", "a", 1, 2},
		{"super.m(", ")", "a", 1, 2},
		{"len(", ")", "a", 1, 2},
		{"-(", ")", "a", 2, 2},
		{"-f(", ")", "a", 2, 2},
		{"(fn() { return ", "; })", "a", 3, 2},
	} {
		more := api.MaxDeep - c.around
		fits := more / c.each
		if more%c.each == 0 {
			checkParses(t, strings.Repeat(c.head, fits)+c.last+strings.Repeat(c.tail, fits)+";")
		}
		beyond := strings.Repeat(c.head, fits+1)
		for _, last := range []string{c.last, "", "*"} {
			checkFails(t, []fails{{beyond + last, api.ErrLimit, len(beyond)}})
		}
	}
}

func TestDeepStatements(t *testing.T) {
	in := func(n int, s string) string {
		return strings.Repeat("try { ", n) + s + strings.Repeat(" } catch (e) {}", n)
	}
	last := api.MaxDeep - 1 // so many blocks around the deepest statement
	checkParses(t, in(last, "return;"), in(last, "try {} catch (e) {}"), in(last-1, "a;"), in(last-1, "a = 1;"), in(last-1, "var a = 1;"),
		"class A { m() { "+in(last, "return;")+" } }", "fn f() { "+in(last, "return;")+" }", in(last-1, "fn() {};"), in(last-1, "f();"))
	at := func(n int, s string) int { return len("try { ")*n + len(s) }
	checkFails(t, []fails{
		{in(last, "a;"), api.ErrLimit, at(last, "")},
		{in(last, "a = 1;"), api.ErrLimit, at(last, "")},
		{in(last, "return 1;"), api.ErrLimit, at(last, "return ")},
		{in(last, "return );"), api.ErrLimit, at(last, "return ")},
		{in(last, "return > 1;"), api.ErrForm, at(last, "return ")}, // no token at all
		{in(last, "print(1);"), api.ErrLimit, at(last, "print(")},
		{in(last, "print 1;"), api.ErrForm, at(last, "print ")},
		{in(last, "if (a) {}"), api.ErrLimit, at(last, "if (")},
		{in(last, "var a = 1;"), api.ErrLimit, at(last, "var a = ")},
		{in(last, "try { return; } catch (e) {}"), api.ErrLimit, at(last, "try { ")},
		{in(last, "try { ) } catch (e) {}"), api.ErrLimit, at(last, "try { ")},
		{in(last, "try { $ } catch (e) {}"), api.ErrForm, at(last, "try { ")},
		{in(last, "try {} catch (e) { return; }"), api.ErrLimit, at(last, "try {} catch (e) { ")},
		{in(last-1, "f(1);"), api.ErrLimit, at(last-1, "f(")},
		{in(last-1, "f(,);"), api.ErrLimit, at(last-1, "f(")},
		{in(last-1, "a[1];"), api.ErrLimit, at(last-1, "a[")},
		{in(last-1, "-1;"), api.ErrLimit, at(last-1, "-")},
		{in(last-1, "fn() { return; };"), api.ErrLimit, at(last-1, "fn() { ")},
		{"class A { m() { " + in(last, "a;") + " } }", api.ErrLimit, at(last, "class A { m() { ")},
	})
}

// 1.3: what is left is no depth any more; signs between two values are none.
func TestNotDeep(t *testing.T) {
	checkParses(t, many(200, "a", "+")+";", many(200, "(1)", "||")+";", many(100, "-a", "*")+";", strings.Repeat("try {} catch (e) { a; }\n", 50),
		"f"+strings.Repeat("(1)", 100)+";", "a"+strings.Repeat(".b[0]", 100)+";", strings.Repeat("class A { m() { a; } }\n", 50), strings.Repeat("fn f() { a; }\n", 50))
}

// 1.3: Many, and more than MaxNodes nodes.
func TestNodes(t *testing.T) {
	for text, want := range map[string]int{"": 1, "1;": 3, "a + b;": 5, "fn f(a) {}": 5, "try {} catch (e) {}": 5, "class A { field a; m() {} }": 6, "(((1)));": 3} {
		if got := Many(mustParse(t, text)); got != want {
			t.Errorf("%q: %d nodes, want %d", text, got, want)
		}
	}
	if Many(nil) != 0 {
		t.Errorf("nil: %d nodes", Many(nil))
	}
	most := strings.Repeat("1;", 598) + "-1;" // 1200 with the program's own
	if got := Many(mustParse(t, most)); got != api.MaxNodes {
		t.Errorf("%d nodes, want %d", got, api.MaxNodes)
	}
	checkFails(t, []fails{
		{strings.Repeat("1;", 600), api.ErrLimit, noPlace},
		{strings.Repeat("1;", 1000), api.ErrLimit, noPlace},
		{strings.Repeat("1;", 1000) + "$", api.ErrForm, 2000}, // how many there are is asked last
		{strings.Repeat("1;", 1000) + "1", api.ErrForm, 2001},
		{strings.Repeat("1;", 1000) + "1 = 2;", api.ErrArg, 2000},
	})
}

// 1.2: more than MaxSource bytes, ahead of all else.
func TestSource(t *testing.T) {
	checkParses(t, strings.Repeat(" ", api.MaxSource), strings.Repeat("\n", api.MaxSource), "1;"+strings.Repeat(" ", api.MaxSource-2))
	checkFails(t, []fails{
		{strings.Repeat(" ", api.MaxSource+1), api.ErrLimit, noPlace},
		{strings.Repeat("$", api.MaxSource+1), api.ErrLimit, noPlace},
		{strings.Repeat("$", api.MaxSource), api.ErrForm, 0},
		{strings.Repeat(" ", api.MaxSource-1) + "$", api.ErrForm, api.MaxSource - 1},
		{strings.Repeat(" ", api.MaxSource-1) + "1", api.ErrForm, api.MaxSource},
		{strings.Repeat("a", 1<<20), api.ErrLimit, noPlace},
	})
}
