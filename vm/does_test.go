package vm

import (
	"fmt"
	"strings"
	"testing"

	"rewind/api"
)

// The document's examples: 4.
func TestExamples(t *testing.T) {
	checkDoes(t, []does{
		{"print(1 + 2);", "S1 O:3 D"},
		{"print([1]);", "S1 O:list#1 D"},
		{"print(1 / 0);", "S1 T1:zero X:zero"},
	})
}

// throwing are values, each of which throws a word, by that word.
func throwing() map[string][]string {
	return map[string][]string{
		// Kinds are looked at ahead of all else.
		"type": {
			"nil / 0", "1 / nil", "\"a\" / 0", "[] % 0", "true * 0", "nil - nil", "\"a\" - \"b\"", "[1] - [1]", "1 + \"a\"", "[] + \"a\"", "a + a", "f + f", "nil + nil", "true + true",
			"nil < 1", "1 < \"1\"", "[] < []", "true < true", "a < a", "-\"1\"", "-nil", "-true", "-[]", "!nil", "!0", "!\"\"", "![]",
			"len(nil)", "len(5)", "len(true)", "len(a)", "len(f)",
			"nil[0]", "\"a\"[0]", "a[0]", "f[0]", "[][nil]", "[][true]", "[][\"0\"]", "[1][[0]]", "nil[9]",
			"nil.p", "5.p", "\"a\".p", "[].p", "f.p", "nil.none", "nil.m()", "[].m(1)", "f.m(1)", "\"a\".none(1, 2)",
			"nil()", "5(1)", "\"f\"()", "[]()", "a()", "nil(1, 2, 3)",
			"nil || true", "0 || true", "\"\" || true", "nil && true", "1 && true", "[] && true", "false || nil", "false || 1", "true && 0", "true && []", "false || f",
		},
		"zero":  {"1 / 0", "1 % 0", "0 / 0", "0 % 0", "-9223372036854775808 / 0", "-9223372036854775808 % 0", "9223372036854775807 / (1 - 1)"},
		"index": {"[][0]", "[][-1]", "[1][1]", "[1][-1]", "[1, 2][9223372036854775807]", "[1, 2][-9223372036854775808]"},
		"name":  {"a.none", "a.m", "a.init", "a.none()", "a.p()", "a.q(1)", "a.none(1, 2, 3)", "b.r", "b.none(1)"},
		"arity": {"a.m()", "a.m(1, 2)", "b.m()", "f()", "f(1, 2)", "(fn() {})(1)", "a.init()", "b.init(1, 2)", "b.up()", "[f][0](1, 2, 3)"},
		"size":  {"t + \"x\"", "\"x\" + t", "t + t", "l + [1]", "[1] + l", "l + l"},
	}
}

// 4.3 to 4.5: each word that is thrown, and which one where several could be; as a value, as an If's and While's, in a Set, in functions; caught, it is a text.
func TestWords(t *testing.T) {
	before := "class A { field p; field q; init(x) {} m(x) {} }\nclass B < A { up() { return super.m(); } }\n" +
		"var a = new A(1); var b = new B(1); var f = fn(x) {}; var t = \"" + strings.Repeat("x", api.MaxString) + "\"; var l = [1, 2, 3, 4, 5]; l = l + l; l = l + l + l + l + l;\n"
	ahead := "S3 S3 S3 S3 S3 S3 S3"
	for word, l := range throwing() {
		for _, v := range l {
			line := 4
			inner := ""
			if v == "b.up()" {
				line, inner = 2, " S2"
			}
			thrown := fmt.Sprint(inner, " T", line, ":", word)
			checkDoes(t, []does{
				{before + "print(" + v + ");", ahead + " S4" + thrown + " X:" + word},
				{before + "try { var z = [1, " + v + "]; } catch (e) { print(e + \"!\"); }", ahead + " S4 S4" + thrown + " C4 S4 O:" + word + "! D"},
			})
		}
	}
	for _, v := range []string{"nil", "0", "1", "\"true\"", "[]", "a", "f"} {
		checkDoes(t, []does{
			{before + "if (" + v + ") { print(1); } else { print(2); }", ahead + " S4 T4:type X:type"},
			{before + "while (" + v + ") { print(1); }", ahead + " S4 T4:type X:type"},
		})
	}
	for set, word := range map[string]string{
		"nil.p": "type", "l.p": "type", "f.p": "type", "a.none": "name", "a.m": "name", "b.r": "name",
		"nil[0]": "type", "t[0]": "type", "a[0]": "type", "l[nil]": "type", "l[true]": "type", "l[50]": "index", "l[-1]": "index", "nil[-1]": "type",
	} {
		checkDoes(t, []does{{before + set + " = 1;", ahead + " S4 T4:" + word + " X:" + word}})
	}
}

// 4.3, 4.5: numbers wrap; Div and Mod are as Go's.
func TestNumbers(t *testing.T) {
	for v, want := range map[string]string{
		"9223372036854775807 + 1":                   "-9223372036854775808",
		"-9223372036854775808 - 1":                  "9223372036854775807",
		"9223372036854775807 * 2":                   "-2",
		"9223372036854775807 * 9223372036854775807": "1",
		"-9223372036854775808 * -1":                 "-9223372036854775808",
		"-9223372036854775808":                      "-9223372036854775808",
		"-(-9223372036854775808)":                   "-9223372036854775808",
		"-9223372036854775808 / -1":                 "-9223372036854775808",
		"-9223372036854775808 % -1":                 "0",
		"-9223372036854775808 / 1":                  "-9223372036854775808",
		"7 / 2":                                     "3",
		"-7 / 2":                                    "-3",
		"7 / -2":                                    "-3",
		"-7 / -2":                                   "3",
		"7 % 2":                                     "1",
		"-7 % 2":                                    "-1",
		"7 % -2":                                    "1",
		"-7 % -2":                                   "-1",
		"0 / 5":                                     "0",
		"-9223372036854775808 < 9223372036854775807": "true",
		"9223372036854775807 < -9223372036854775808": "false",
		"3 < 3": "false",
		"9223372036854775807 + 1 == -9223372036854775808": "true",
		"0 == -0": "true",
		"0 - 9223372036854775808 - 9223372036854775808 == 0 == 1": "false",
	} {
		checkDoes(t, []does{{"print(" + v + ");", "S1 O:" + want + " D"}})
	}
}

// 4.5: which values are alike, and which are less.
func TestAlike(t *testing.T) {
	alike := []string{"nil", "true", "false", "0", "1", "\"\"", "\"nil\"", "\"0\"", "\"a\"", "a", "b", "l", "k", "f", "g"}
	before := "class A {} var a = new A(); var b = new A(); var l = []; var k = []; var f = fn() {}; var g = fn() {}; "
	for i, v := range alike {
		for j, w := range alike {
			checkDoes(t, []does{{before + "print(" + v + " == " + w + ");", fmt.Sprint("S1 S1 S1 S1 S1 S1 S1 O:", i == j, " D")}})
		}
	}
	texts := []string{"", "A", "AB", "B", "a", "aa", "b"}
	for i, v := range texts {
		for j, w := range texts {
			checkDoes(t, []does{{"print(\"" + v + "\" < \"" + w + "\");", fmt.Sprint("S1 O:", i < j, " D")}})
		}
	}
}

// 4.5: Not, Or, And: what they are, and which values are asked for.
func TestTruths(t *testing.T) {
	before := "fn p(x) { print(x); return x; } "
	checkDoes(t, []does{
		{"print(!true); print(!false); print(!!true);", "S1 O:false S1 O:true S1 O:true D"},
		{before + "print(p(true) || p(false));", "S1 S1 O:true S1 O:true D"},
		{before + "print(p(false) || p(true));", "S1 S1 O:false S1 S1 O:true S1 O:true D"},
		{before + "print(p(false) || p(false));", "S1 S1 O:false S1 S1 O:false S1 O:false D"},
		{before + "print(p(false) && p(true));", "S1 S1 O:false S1 O:false D"},
		{before + "print(p(true) && p(false));", "S1 S1 O:true S1 S1 O:false S1 O:false D"},
		{before + "print(p(true) && p(true));", "S1 S1 O:true S1 S1 O:true S1 O:true D"},
		{"print(true || nil); print(false && nil);", "S1 O:true S1 O:false D"},
		{"if (!(1 < 2) || 2 < 1) { print(1); } else { print(2); }", "S1 S1 O:2 D"},
	})
}

// 4.5: texts and lists of just MaxString bytes and MaxList values.
func TestJustSoMany(t *testing.T) {
	half := "\"" + strings.Repeat("x", api.MaxString/2) + "\""
	checkDoes(t, []does{
		{"print(len(" + half + " + " + half + "));", "S1 O:300 D"},
		{"print(" + half + " + " + half + " == " + half + " + \"\" + " + half + ");", "S1 O:true D"},
		{"var t = " + half + " + " + half + "; print(len(t + \"\" + \"\")); print(len(\"\" + t));", "S1 S1 O:300 S1 O:300 D"},
		{"var l = [1, 2, 3, 4, 5]; l = l + l; var m = l + l + l + l + [6]; print(len(m)); m = m + [7, 8, 9, 10, 11, 12, 13, 14] + [99]; print(len(m)); print(m[49]); print(m[0]); print(m[40]); print(m); m = m + []; print(m); m = [] + m; print(len(m));",
			"S1 S1 S1 S1 O:41 S1 S1 O:50 S1 O:99 S1 O:1 S1 O:6 S1 O:list#11 S1 S1 O:list#13 S1 S1 O:50 D"},
		// Adding makes a new list: those two stay as they are.
		{"var l = [1]; var k = l + l; k[0] = 5; l[0] = 6; print(k[0] * 100 + k[1] * 10 + l[0]); print(len(l));", "S1 S1 S1 S1 S1 O:516 S1 O:1 D"},
		// A list may have itself.
		{"var l = [1, 2]; l[1] = l; print(l[1][1][1][0]); print(l[1]); l = l + l; print(l[3][0]); print(l);", "S1 S1 S1 O:1 S1 O:list#1 S1 S1 O:1 S1 O:list#2 D"},
	})
}

// 4.4, 4.5: variables, fields and elements that are set from within Lambdas.
func TestSetWithin(t *testing.T) {
	checkDoes(t, []does{
		{"class A { field p; put() { return fn(x) { this.p = x; return this; }; } }\nvar a = new A(); print(a.put()(5) == a); print(a.p);", "S2 S2 S1 S1 S1 O:true S2 O:5 D"},
		{"class A { field p; } var a = new A(); var f = fn() { a.p = 1; a = [a]; a[0].p = 2; };\nf(); print(a); print(a[0].p);", "S1 S1 S2 S1 S1 S1 S2 O:list#3 S2 O:2 D"},
		{"var l = [1, [2]]; var f = fn(i) { return fn(x) { l[1][i] = x; l[0] = l; }; };\nf(0)(7); print(l[0][0][1][0]);", "S1 S1 S2 S1 S1 S1 S2 O:7 D"},
		{"var n = 0; var f = fn() { n = n + 1; return fn() { n = n * 10; }; };\nf()(); f()(); print(n);", "S1 S1 S2 S1 S1 S1 S2 S1 S1 S1 S2 O:110 D"},
		{"fn f(a) { var g = fn(x) { a = x; }; g(a + 1); return a; }\nprint(f(1));", "S2 S1 S1 S1 S1 O:2 D"},
		{"try { throw 1; } catch (e) { fn() { e = e + 1; }(); print(e); }", "S1 S1 T1:1 C1 S1 S1 S1 O:2 D"},
	})
}

// 4.4, 4.5: what is thrown in an init, in a Super, out of a Catch, across functions; and what goes on then.
func TestThrownAnywhere(t *testing.T) {
	checkDoes(t, []does{
		{"class A { init() {\nthrow 1; } }\nclass B < A { init() {\nsuper.init();\nprint(2); } }\ntry { print(new B()); } catch (e) { print(e); }\nprint([]);", "S6 S6 S4 S2 T2:1 C6 S6 O:1 S7 O:list#2 D"},
		{"class A { init() { throw this; } } try { new A(); } catch (e) { print(e); try { new A(); } catch (g) { print(g == e); } }", "S1 S1 S1 T1:A#1 C1 S1 O:A#1 S1 S1 S1 T1:A#2 C1 S1 O:false D"},
		{"class A { m(x) { return x + nil; } } class B < A { m(x) {\ntry { return super.m(x); } catch (e) {\nreturn e + x; } } }\nprint(new B().m(\"!\"));", "S4 S2 S2 S1 T1:type C2 S3 O:type! D"},
		// Values that were on their way are gone, those of who catches stay.
		{"fn f(x) { throw x; } fn g(x) { try { return [1, 2, f(x)]; } catch (e) { return e * 2; } }\nprint(100 + g(3) + g(4));", "S2 S1 S1 S1 T1:3 C1 S1 S1 S1 S1 T1:4 C1 S1 O:114 D"},
		{"var f = nil; f = fn(n) { if (n == 0) { throw n; } try { f(n - 1); } catch (e) { throw e + 10; } };\ntry { f(2); } catch (e) { print(e); }",
			"S1 S1 S2 S2 S1 S1 S1 S1 S1 S1 S1 S1 T1:0 C1 S1 T1:10 C1 S1 T1:20 C2 S2 O:20 D"},
		{"while (true) { try { throw 1; } catch (e) { throw [e]; } }", "S1 S1 S1 T1:1 C1 S1 T1:list#1 X:list#1"},
		{"fn f() { while (true) { try { return 5; } catch (e) {} } } try { print(f()); throw 6; } catch (e) { print(e); }", "S1 S1 S1 S1 S1 O:5 S1 T1:6 C1 S1 O:6 D"},
		{"fn f() { try { throw 1; } catch (e) { return e; } return 9; } print(f()); throw 2;", "S1 S1 S1 T1:1 C1 S1 O:1 S1 T1:2 X:2"},
	})
}

// 4.5: New: init of a class above, what it returns, fields that are nil, and no values where there is no init.
func TestNewInstances(t *testing.T) {
	checkDoes(t, []does{
		{"class A { field p; init(x) { this.p = x; return 99; } } class B < A { field q; } class C < B {}\nvar c = new C(5); print(c); print(c.p); print(c.q);", "S2 S1 S1 S2 O:C#1 S2 O:5 S2 O:nil D"},
		{"class A { init() { return [1]; } } print(new A()); print(new A() == nil);", "S1 S1 O:A#1 S1 S1 O:false D"},
		{"class A { field p; m() { return this.p; } } print(new A().m()); print(new A());", "S1 S1 O:nil S1 O:A#2 D"},
		{"class A { field a; init(x) { this.a = x; } } class B < A { field b; init(x, y) { super.init(y); this.b = x; } }\nvar b = new B([1], [2]); print(b); print(b.a); print(b.b);", "S2 S1 S1 S1 S2 O:B#3 S2 O:list#2 S2 O:list#1 D"},
	})
}

// 4.5: MaxCalls calls may be under way: one more throws depth, whichever kind of call it is, ahead of any identity.
func TestCalls(t *testing.T) {
	before := "class A { field p; init(x) {} none() {} m() { return 1; } } class B < A { m() { return super.m(); } }\nvar b = new B(0); var e = fn() { return 2; }; fn k() { return 3; }\nvar g = nil;\n"
	for call, calls := range map[string]int{"k()": 1, "e()": 1, "b.none()": 1, "new A([])": 1, "b.m()": 2} {
		// The innermost one of n calls of g does it.
		text := before + "g = fn(n) { if (n == 1) {\ntry { print([" + call + "]); } catch (e) { print(e); print([]); } return 0; } return g(n - 1); };\ng(N);"
		for deep, fits := range map[int]bool{api.MaxCalls - calls: true, api.MaxCalls - calls + 1: false, api.MaxCalls: false} {
			x := doing(t, strings.Replace(text, "N", fmt.Sprint(deep), 1), roomy(1))
			var outs []string
			for _, e := range rest(x) {
				if e.Kind == api.Out || e.Kind == api.Thrown {
					outs = append(outs, told(e))
				}
			}
			// b, e and g's function are 1 to 3; what New was given is 4.
			next, line := 4, 5
			if call == "new A([])" {
				next = 5
			}
			if call == "b.m()" && deep == api.MaxCalls-1 {
				line = 1
			}
			want := fmt.Sprint("T", line, ":depth O:depth O:list#", next)
			if fits && call == "new A([])" {
				want = "O:list#6"
			} else if fits {
				want = "O:list#4"
			}
			if got := strings.Join(outs, " "); got != want {
				t.Errorf("%s at %d: %s, want %s", call, deep, got, want)
			}
		}
	}
}

// 4.2: behind MaxEvents events nothing goes on, whatever the last one is; a program may end just there.
func TestMaxEvents(t *testing.T) {
	// A Stop, two each time round, and one.
	loop := func(rounds int) string {
		return fmt.Sprint("var i = 0; while (i < ", rounds, ") { i = i + 1; } ")
	}
	for text, want := range map[string]string{
		"while (true) {}":                                    "S1 S1",
		loop(748) + "1;":                                     "S1 D",
		loop(748) + "print(i);":                              "S1 O:748",
		loop(748) + "throw i;":                               "S1 T1:748",
		loop(747) + "1; throw i;":                            "T1:747 X:747",
		loop(747) + "1; 1; 1;":                               "S1 D",
		loop(747) + "try { 1 / 0; } catch (e) { print(e); }": "T1:zero C1",
	} {
		x := doing(t, text, roomy(1))
		events := rest(x)
		got := told(events[len(events)-2:]...)
		if got != want || len(events) != api.MaxEvents {
			t.Errorf("%s: %d events, at last %s, want %s", text, len(events), got, want)
		}
		wantEnd(t, text, x, api.MaxEvents, false)
	}
}

// 6.2: behind MaxEvents events it is over at once, as behind Done and Dead.
func TestOverAtOnce(t *testing.T) {
	for text, count := range map[string]int{"while (true) {}": api.MaxEvents, "1;": 2, "throw 1;": 3, "": 1} {
		x := doing(t, text, roomy())
		for n := range count {
			if x.Ended() || x.State().Ended {
				t.Errorf("%q: over behind %d events", text, n)
			}
			x.Next()
		}
		if !x.Ended() || !x.State().Ended || len(x.State().Frames) != 1 {
			t.Errorf("%q: not over behind %d events", text, count)
		}
	}
}

// 4.5: inputs, the first one first, then nil for ever.
func TestInputs(t *testing.T) {
	x := doing(t, "fn f() { return input(); } print(input()); print([f(), input()][1]); print(f()); print(input()); print(input());", roomy(), least, 0, greatest)
	if got, want := told(rest(x)...), "S1 O:-9223372036854775808 S1 S1 O:9223372036854775807 S1 S1 O:nil S1 O:nil S1 O:nil D"; got != want {
		t.Errorf("%s, want %s", got, want)
	}
	inputs := make([]int, api.MaxInputs)
	for i := range inputs {
		inputs[i] = i
	}
	x = doing(t, "var i = 0; while (i < 99) { i = i + 1; input(); } print(input()); print(input());", roomy(), inputs...)
	events := rest(x)
	if got := told(events[len(events)-5:]...); got != "S1 O:99 S1 O:nil D" {
		t.Errorf("%s", got)
	}
}
