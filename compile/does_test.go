package compile

import (
	"strings"
	"testing"

	"rewind/api"
)

// The document's examples.
func TestExamples(t *testing.T) {
	checkDoes(t, []does{
		{text: "print(1 + 2);", want: "S1 O:3 D"},
		{text: "print([1]);", want: "S1 O:list#1 D"},
		{text: "print(1 / 0);", want: "S1 T1:zero X:zero"},
	})
}

// 4.2: events.
func TestEvents(t *testing.T) {
	checkDoes(t, []does{
		{text: "", want: "D"},
		{text: "class A { m() { print(1); } } fn f() { print(2); }", want: "D"},
		{text: "1;\nprint(2);\nvar a = 3;\na = 4;", want: "S1 S2 O:2 S3 S4 D"},
		{text: "var i = 0;\nwhile (i < 2) {\ni = i + 1;\n}\nprint(i);", want: "S1 S2 S3 S2 S3 S2 S5 O:2 D"},
		{text: "while\n(false) { print(1); }", want: "S1 D"},
		{text: "if (true) {\nprint(1);\n} else {\nprint(2);\n}", want: "S1 S2 O:1 D"},
		{text: "if (false) {\nprint(1);\n} else {\nprint(2);\n}", want: "S1 S4 O:2 D"},
		{text: "if (false) { print(1); }\nprint(2);", want: "S1 S2 O:2 D"},
		{text: "if (true) {} else {}\nprint(2);", want: "S1 S2 O:2 D"},
		{text: "fn f() {\nthrow 5;\n}\n\ntry {\nf();\n}\ncatch (e) {\nprint(e);\n}", want: "S5 S6 S2 T2:5 C8 S9 O:5 D"},
		{text: "fn f() { }\nprint(f());", want: "S2 O:nil D"},
		{text: "fn f(x) {\nreturn x;\n}\nprint(\nf(1) + f(nil));", want: "S4 S2 S2 T4:type X:type"},
		{text: "try {} catch (e) { print(e); }", want: "S1 D"},
		{text: "try { throw 1; } catch (e) {}", want: "S1 S1 T1:1 C1 D"},
		{text: "throw [fn() {}];", want: "S1 T1:list#2 X:list#2"},
		{text: "throw \"\";", want: "S1 T1: X:"},
	})
}

// 4.2: behind MaxEvents events nothing goes on; whose last one is just that comes to its end.
func TestMaxEvents(t *testing.T) {
	rounds := func(many int) string { return strings.Repeat(" S1 S1", many) }
	// A Stop ahead, two each time round, one where it ends, and Done.
	loop := "var i = 0; while (i < N) { i = i + 1; }"
	checkDoes(t, []does{
		{text: "while (true) {}", want: strings.Repeat("S1 ", api.MaxEvents-1) + "S1"},
		{text: strings.Replace(loop, "N", "748", 1) + " 1;", want: "S1" + rounds(748) + " S1 S1 D"},
		{text: strings.Replace(loop, "N", "748", 1) + " print(1);", want: "S1" + rounds(748) + " S1 S1 O:1"},
		{text: strings.Replace(loop, "N", "749", 1), want: "S1" + rounds(749) + " S1"},
	})
}

// 4.3: values, and how they are shown.
func TestShown(t *testing.T) {
	checkPrints(t, []prints{
		{"print(nil); print(true); print(false); print(0); print(-5); print(\"\"); print(\"a b\");", "nil true false 0 -5  a b"},
		{"class A {} class b { m() { return this; } } print(new A()); print([]); print(fn() {}); print(new b().m());", "A#1 list#2 fn#3 b#4"},
		{"class list {} class fun {} print(new list()); print([]); print(new fun());", "list#1 list#2 fun#3"},
		{"print(9223372036854775807 + 1); print(9223372036854775808); print(-9223372036854775808 - 1); print(4611686018427387904 * 2);", "-9223372036854775808 -9223372036854775808 9223372036854775807 -9223372036854775808"},
		{"print(-9223372036854775808 / -1); print(-9223372036854775808 % -1); print(-7 / 2); print(-7 % 2); print(7 / -2); print(7 % -2);", "-9223372036854775808 0 -3 -1 -3 1"},
		// Identities are given in the order in which objects are made: lists behind their values.
		{"var a = [[], [fn() {}]]; print(a); print(a[0]); print(a[1]); print(a[1][0]);", "list#4 list#1 list#3 fn#2"},
		{"class A { field l; init(x) { this.l = []; } } var a = new A([]); print(a); print(a.l);", "A#2 list#3"},
		{"var a = [1]; var b = a + a; print(a); print(b);", "list#1 list#2"},
	})
}

// 4.4: Var, and Set.
func TestVariables(t *testing.T) {
	checkPrints(t, []prints{
		{"var a = 1; a = a + 1; print(a); if (true) { var a = 5; a = 6; print(a); } print(a);", "2 6 2"},
		{"var a = 1; if (true) { var a = a + 1; print(a); } print(a);", "2 1"},
		{"if (true) { var a = 1; } if (true) { var b = 2; print(b); } var c = 3; print(c);", "2 3"},
		{"if (true) { var a = 1; var b = 2; if (true) { var c = 3; print(a + b + c); } var d = 4; print(a + b + d); }", "6 7"},
		{"fn f(a, b, c) { a = b; b = c; var d = a; c = 9; return [a, b, c, d]; } var l = f(1, 2, 3); print(l[0]); print(l[1]); print(l[2]); print(l[3]);", "2 3 9 2"},
		{"var l = [1, [2, 3]]; l[0] = 5; l[1][1] = 6; print(l[0]); print(l[1][0]); print(l[1][1]);", "5 2 6"},
		{"class A { field p; field q; } var a = new A(); print(a.p); a.p = new A(); a.p.q = 3; a.q = 4; print(a.p.q); print(a.q);", "nil 3 4"},
	})
	checkDoes(t, []does{
		// The parts ahead of the value, then the value, and only then what they are.
		{text: "fn p(x) { print(x); return x; }\np(1).x = p(2);", want: "S2 S1 O:1 S1 S1 O:2 S1 T2:type X:type"},
		{text: "fn p(x) { print(x); return x; }\np(1)[p(2)] = p(3);", want: "S2 S1 O:1 S1 S1 O:2 S1 S1 O:3 S1 T2:type X:type"},
		{text: "[1][1] = 2;", want: "S1 T1:index X:index"},
		{text: "[1][-1] = 2;", want: "S1 T1:index X:index"},
		{text: "[1][nil] = 2;", want: "S1 T1:type X:type"},
		{text: "class A { field p; } new A().q = 1;", want: "S1 T1:name X:name"},
		{text: "[].q = 1;", want: "S1 T1:type X:type"},
		{text: "(fn() {}).q = 1;", want: "S1 T1:type X:type"},
	})
}

// 4.4: If, While, Return.
func TestFlow(t *testing.T) {
	checkDoes(t, []does{
		{text: "if (1) {}", want: "S1 T1:type X:type"},
		{text: "if (nil) {} else { print(1); }", want: "S1 T1:type X:type"},
		{text: "while (\"\") {}", want: "S1 T1:type X:type"},
		{text: "var i = 0;\nwhile (i < 1 || i) {\ni = 1;\n}", want: "S1 S2 S3 S2 T2:type X:type"},
		{text: "fn f() {\nwhile (true) {\nif (true) { return 1; }\n}\n}\nprint(f());", want: "S6 S2 S3 S3 O:1 D"},
		{text: "fn f() { return; print(1); }\nprint(f());", want: "S2 S1 O:nil D"},
		{text: "fn f() { if (true) { return 1; } else { return 2; } }\nprint(f());", want: "S2 S1 S1 O:1 D"},
		{text: "fn f(n) { if (n == 0) { return 0; }\nreturn n + f(n - 1); }\nprint(f(2));", want: "S3 S1 S2 S1 S2 S1 S1 O:3 D"},
	})
}

// 4.4: Throw, and Try.
func TestTry(t *testing.T) {
	checkDoes(t, []does{
		{text: "try {\nthrow 1;\nprint(2);\n} catch (e) {\nprint(e);\n}\nprint(3);", want: "S1 S2 T2:1 C4 S5 O:1 S7 O:3 D"},
		// Try within Try: the inner one catches, and what it throws is caught by the outer one.
		{text: "try {\ntry {\nthrow 1;\n} catch (e) {\nthrow e + 1;\n}\n} catch (e) {\nprint(e);\n}", want: "S1 S2 S3 T3:1 C4 S5 T5:2 C7 S8 O:2 D"},
		{text: "try {\ntry { throw 1; } catch (e) { print(e); }\nthrow 2;\n} catch (e) { print(e); }", want: "S1 S2 S2 T2:1 C2 S2 O:1 S3 T3:2 C4 S4 O:2 D"},
		// Try within Catch; what is thrown in a Catch is not caught there.
		{text: "try { throw 1; } catch (e) {\ntry { throw 2; } catch (f) { print(e + f); }\nthrow 3;\n}", want: "S1 S1 T1:1 C1 S2 S2 T2:2 C2 S2 O:3 S3 T3:3 X:3"},
		// Out of functions, from within values.
		{text: "fn f(n) {\nif (n == 0) { throw \"x\"; }\nreturn 1 + f(n - 1);\n}\ntry {\nprint([1, f(1)]);\n} catch (e) {\nprint([e][0]);\n}", want: "S5 S6 S2 S3 S2 S2 T2:x C7 S8 O:x D"},
		// Return out of Try, and out of Catch: what comes later is not caught there.
		{text: "fn f() {\ntry { return 1; } catch (e) { print(e); }\n}\ntry {\nf();\nthrow f();\n} catch (e) {\nprint(e);\n}", want: "S4 S5 S2 S2 S6 S2 S2 T6:1 C7 S8 O:1 D"},
		{text: "fn f() { try { throw 1; } catch (e) { return e; }\nreturn 2; }\nprint(f());", want: "S3 S1 S1 T1:1 C1 S1 O:1 D"},
		{text: "fn f() { try { try { return 1; } catch (e) {} } catch (e) {} return 2; }\nprint(f()); throw 3;", want: "S2 S1 S1 S1 O:1 S2 T2:3 X:3"},
		// Out of a While within Try, and of Try within While.
		{text: "var i = 0;\ntry {\nwhile (true) {\ni = i + 1;\nif (i == 2) { throw i; }\n}\n} catch (e) { print(e); }", want: "S1 S2 S3 S4 S5 S3 S4 S5 S5 T5:2 C7 S7 O:2 D"},
		{text: "var i = 0;\nwhile (i < 2) {\ntry { i = i + 1; throw i; } catch (e) { print(e); }\n}\nthrow i;", want: "S1 S2 S3 S3 S3 T3:1 C3 S3 O:1 S2 S3 S3 S3 T3:2 C3 S3 O:2 S2 S5 T5:2 X:2"},
		{text: "fn f() {\nwhile (true) { try { while (true) { return 7; } } catch (e) {} }\n}\nprint(f());", want: "S4 S2 S2 S2 S2 O:7 D"},
		// What a While's own value throws is caught around it.
		{text: "try { while (1) {} } catch (e) { print(e); }", want: "S1 S1 T1:type C1 S1 O:type D"},
		// Behind a Try nothing is caught.
		{text: "try { print(1); } catch (e) { print(2); } throw 3;", want: "S1 S1 O:1 S1 T1:3 X:3"},
		{text: "try {} catch (e) {} throw 3;", want: "S1 S1 T1:3 X:3"},
		// Catch's name is a variable of its own.
		{text: "var e = 1; try { throw 2; } catch (e) { e = e + 1; print(e); } print(e);", want: "S1 S1 S1 T1:2 C1 S1 S1 O:3 S1 O:1 D"},
		{text: "try { var a = 1; throw a; } catch (e) { var a = e + 1; print(a); }", want: "S1 S1 S1 T1:1 C1 S1 S1 O:2 D"},
	})
}

// 4.5: values of one and two parts, and what they throw.
func TestSigns(t *testing.T) {
	checkPrints(t, []prints{
		{"print(1 + 2 * 3 - -4); print(7 / 2); print(7 % 2); print(!true); print(-(-1));", "11 3 1 false 1"},
		{"print(1 < 2); print(2 < 1); print(\"a\" < \"b\"); print(\"a\" < \"\"); print(\"Z\" < \"a\"); print(-1 < 0);", "true false true false true true"},
		{"print(1 == 1); print(1 == \"1\"); print(nil == nil); print(nil == false); print([] == []); var a = [0]; print(a == a); print(a[0] == 0); print(\"a\" == \"a\"); print(true == true); print(0 == false);", "true false true false false true true true true false"},
		{"print(\"a\" + \"b\"); print(len(\"abc\")); print(len([1, [2, 3]])); print(([1] + [2])[1]); print(len([] + []));", "ab 3 2 2 0"},
		{"print(10 - 3 - 2); print(10 - (3 - 2)); print(2 - 3 * 4); print(1 + 2 < 4 == true);", "5 9 -10 true"},
	})
	words := map[string][]string{
		"type":  {"nil + 1", "1 + nil", "1 + \"a\"", "\"a\" + 1", "[] + 1", "1 - \"a\"", "\"a\" - \"a\"", "[] * []", "true / 1", "\"a\" % 0", "nil / 0", "1 < \"a\"", "[] < []", "true < false", "-\"a\"", "-nil", "!1", "!nil", "len(1)", "len(nil)", "len(fn() {})", "1[0]", "\"a\"[0]", "[1][true]", "nil[0]", "nil.p", "[].p", "\"a\".p", "nil.m()", "[].m()", "(fn() {}).m()", "1()", "nil(1)", "[]()", "new A()()", "(fn() {} + fn() {})", "new A() + 1", "len(new A())", "new A()[0]"},
		"zero":  {"1 / 0", "1 % 0", "0 / 0", "-9223372036854775808 % 0"},
		"index": {"[][0]", "[1][1]", "[1][-1]", "[1, 2][9223372036854775807]"},
		"name":  {"new A().q", "new A().m", "new A().m()", "new A().p()"},
		"arity": {"(fn() {})(1)", "(fn(a) {})()", "(fn(a, b) {})(1, 2, 3)", "new A().n()", "new A().n(1, 2)"},
	}
	for word, l := range words {
		for _, v := range l {
			checkDoes(t, []does{{text: "class A { field p; n(x) {} }\nprint(" + v + ");", want: "S2 T2:" + word + " X:" + word}})
		}
	}
}

// 4.5: what is too long.
func TestSize(t *testing.T) {
	sure := func(value, want string) {
		t.Helper()
		text := "var s = \"" + strings.Repeat("x", api.MaxString/2) + "\"; var l = [1, 2, 3, 4, 5]; l = l + l + l + l + l; print(len(" + value + "));"
		got := run(t, mustCompile(t, text), nil)
		if last := got[len(got)-1]; outs(got) != want || (last.Kind == api.Done) != (want != "") {
			t.Errorf("%s: %s, want %s", value, told(got), want)
		}
		if told(got) != told(walk(mustParse(t, text), nil)) {
			t.Errorf("%s: the program does something else", value)
		}
	}
	sure("s + s", "300")
	sure("s + s + \"\"", "300")
	sure("s + s + \"x\"", "")
	sure("l + l", "50")
	sure("l + l + []", "50")
	sure("l + l + [1]", "")
}

// 4.5: Or and And, also within each other.
func TestTruths(t *testing.T) {
	says := "fn t(x) { print(x); return true; } fn f(x) { print(x); return false; }"
	checkPrints(t, []prints{
		{says + "print(t(1) || t(2)); print(f(3) || t(4)); print(f(5) || f(6));", "1 true 3 4 true 5 6 false"},
		{says + "print(f(1) && t(2)); print(t(3) && f(4)); print(t(5) && t(6));", "1 false 3 4 false 5 6 true"},
		{says + "print((f(1) || t(2)) && (t(3) && f(4) || t(5)));", "1 2 3 4 5 true"},
		{says + "print(t(1) && f(2) || f(3) && t(4) || t(5));", "1 2 3 5 true"},
		{says + "print((t(1) || f(2)) && f(3)); print((f(4) && t(5)) || t(6));", "1 3 false 4 6 true"},
		{says + "print(!(t(1) && !(f(2) || t(3))));", "1 2 3 true"},
		{says + "print([t(1) || 5, f(2) && 6][1] == (f(3) || t(4) == true));", "1 2 3 4 false"},
		{says + "if (f(1) || t(2)) { print(3); } while (t(4) && f(5)) {}", "1 2 3 4 5"},
	})
	checkDoes(t, []does{
		{text: "print(1 || true);", want: "S1 T1:type X:type"},
		{text: "print(nil && true);", want: "S1 T1:type X:type"},
		{text: "print(false || 1);", want: "S1 T1:type X:type"},
		{text: "print(true && nil);", want: "S1 T1:type X:type"},
		{text: "print(true || 1);", want: "S1 O:true D"},
		{text: "print(false && 1);", want: "S1 O:false D"},
		{text: "print((false || nil) && true);", want: "S1 T1:type X:type"},
		{text: "print((true && 1) || true);", want: "S1 T1:type X:type"},
	})
}

// 4.5: inputs, in order, then nil.
func TestInputs(t *testing.T) {
	checkDoes(t, []does{
		{text: "print(input() - input()); print(input());", inputs: []int{7, 5}, want: "S1 O:2 S1 O:nil D"},
		{text: "fn f() { return input(); } print([input(), f(), input()][1]);", inputs: []int{1, 2, 3}, want: "S1 S1 O:2 D"},
		{text: "print(input());", want: "S1 O:nil D"},
	})
}

// 4.5: values are asked from the left, also where one of them throws.
func TestFromTheLeft(t *testing.T) {
	says := "fn p(x) { print(x); return x; } class A { init(a, b) {} m(a, b) {} } "
	checkPrints(t, []prints{
		{says + "p(1) + p(2) * p(3) - p(4);", "1 2 3 4"},
		{says + "[p(1), [p(2)], p(3)];", "1 2 3"},
		{says + "new A(p(1), p(2)).m(p(3), p(4));", "1 2 3 4"},
		{says + "p(p(1) == p(2));", "1 2 false"},
		{says + "p([p(5)])[p(0)];", "5 list#1 0"},
		{says + "p(fn(a, b) { print(a); })(p(2), p(3));", "fn#1 2 3 2"},
	})
	checkDoes(t, []does{
		// What is called is asked ahead of the values, and looked at behind them.
		{text: "fn p(x) { print(x); return x; }\np(nil)(p(1));", want: "S2 S1 O:nil S1 S1 O:1 S1 T2:type X:type"},
		{text: "fn p(x) { print(x); return x; }\np(nil).m(p(1));", want: "S2 S1 O:nil S1 S1 O:1 S1 T2:type X:type"},
	})
}
