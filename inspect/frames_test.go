package inspect

import (
	"fmt"
	"strings"
	"testing"

	"rewind/api"
	"rewind/vm"
)

// 8.1: functions that are under way, the first one first, with their names and lines: main alone, functions, methods, a constructor, functions within functions.
func TestFunctions(t *testing.T) {
	checkSeen(t, []seen{
		{"", lines("- main 0:", "D")},
		{"class A {}\nfn f() {}", lines("- main 0:", "D")},
		{"1;\n\nprint(2);", lines("- main 0:", "S1 main 1:", "S3 main 3:", "O:2 main 3:", "D")},
		{"fn f() {\nreturn g() + 1; }\nfn g() {\nprint(1);\nreturn 2; }\nprint(f());", lines(
			"- main 0:",
			"S6 main 6:",
			"S2 main 6: ; f 2:",
			"S4 main 6: ; f 2: ; g 4:",
			"O:1 main 6: ; f 2: ; g 4:",
			"S5 main 6: ; f 2: ; g 5:",
			"O:3 main 6:",
			"D")},
		{"class A { init() {\nthis.m(); }\nm() {\n1; } }\nclass B < A { m() {\nsuper.m(); } }\nnew B();", lines(
			"- main 0:",
			"S7 main 7:",
			"S2 main 7: ; A.init 2: this B#1",
			"S6 main 7: ; A.init 2: this B#1; B.m 6: this B#1",
			"S4 main 7: ; A.init 2: this B#1; B.m 6: this B#1; A.m 4: this B#1",
			"D")},
		{"var f = fn() {\nreturn fn() {\nreturn fn() {\nreturn 1; }(); }(); };\nprint(f());", lines(
			"- main 0:",
			"S1 main 1:",
			"S5 main 5: f fn#1",
			"S2 main 5: f fn#1; fn 2:",
			"S3 main 5: f fn#1; fn 2: ; fn 3:",
			"S4 main 5: f fn#1; fn 2: ; fn 3: ; fn 4:",
			"O:1 main 5: f fn#1",
			"D")},
		{"fn f(n) {\nif (n == 0) { return 0; }\nreturn f(n - 1); }\nf(1);", lines(
			"- main 0:",
			"S4 main 4:",
			"S2 main 4: ; f 2: n 1",
			"S3 main 4: ; f 3: n 1",
			"S2 main 4: ; f 3: n 1; f 2: n 0",
			"S2 main 4: ; f 3: n 1; f 2: n 0",
			"D")},
	})
}

// 8.1: a method's this is ahead of its parameters; parameters are there from the call on, ahead of any statement, whether functions within use them or not. A function within a method has no this of its own.
func TestParameters(t *testing.T) {
	checkSeen(t, []seen{
		{"class A { init(x, y) {\n1; }\nm(z) {\nreturn fn(u) { return [this, z, u]; }; } }\nvar a = new A(1, 2).m(3);\na(4);", lines(
			"- main 0:",
			"S5 main 5:",
			"S2 main 5: ; A.init 2: this A#1, x 1, y 2",
			"S4 main 5: ; A.m 4: this A#1, z 3",
			"S6 main 6: a fn#2",
			"S4 main 6: a fn#2; fn 4: u 4",
			"D")},
		{"fn f(b, a, c) {\nvar g = fn() { c = a; };\ng();\nreturn b; }\nf(1, nil, \"t\");", lines(
			"- main 0:",
			"S5 main 5:",
			"S2 main 5: ; f 2: b 1, a nil, c t",
			"S3 main 5: ; f 3: b 1, a nil, c t, g fn#1",
			"S2 main 5: ; f 3: b 1, a nil, c t, g fn#1; fn 2:",
			"S4 main 5: ; f 4: b 1, a nil, c nil, g fn#1",
			"D")},
		{"fn f(a) {\na = 2;\nvar a1 = a;\n1; }\nf(1);", lines(
			"- main 0:",
			"S5 main 5:",
			"S2 main 5: ; f 2: a 1",
			"S3 main 5: ; f 3: a 2",
			"S4 main 5: ; f 4: a 2, a1 2",
			"D")},
		{"class A { m() {\nvar f = fn() {\nreturn this; };\nprint(f()); } }\nnew A().m();", lines(
			"- main 0:",
			"S5 main 5:",
			"S2 main 5: ; A.m 2: this A#1",
			"S4 main 5: ; A.m 4: this A#1, f fn#2",
			"S3 main 5: ; A.m 4: this A#1, f fn#2; fn 3:",
			"O:A#1 main 5: ; A.m 4: this A#1, f fn#2",
			"D")},
	})
}

// 8.1: a variable is there behind its statement's value: neither behind the Stop of that statement, nor while its value calls functions, nor behind what that throws.
func TestDeclared(t *testing.T) {
	checkSeen(t, []seen{
		{"var a = 7;\nprint(a);", lines("- main 0:", "S1 main 1:", "S2 main 2: a 7", "O:7 main 2: a 7", "D")},
		{"var a = 1;\nvar b = a + 1;\na = 5;\nvar c = b;\n1;", lines(
			"- main 0:",
			"S1 main 1:",
			"S2 main 2: a 1",
			"S3 main 3: a 1, b 2",
			"S4 main 4: a 5, b 2",
			"S5 main 5: a 5, b 2, c 2",
			"D")},
		{"fn f() {\nvar c = 1;\nprint(c);\nreturn c; }\nvar a = f();\nvar b = [f()];", lines(
			"- main 0:",
			"S5 main 5:",
			"S2 main 5: ; f 2:",
			"S3 main 5: ; f 3: c 1",
			"O:1 main 5: ; f 3: c 1",
			"S4 main 5: ; f 4: c 1",
			"S6 main 6: a 1",
			"S2 main 6: a 1; f 2:",
			"S3 main 6: a 1; f 3: c 1",
			"O:1 main 6: a 1; f 3: c 1",
			"S4 main 6: a 1; f 4: c 1",
			"D")},
		{"var a = 1;\ntry {\nvar b = a / 0; } catch (e) {\n1; }", lines(
			"- main 0:",
			"S1 main 1:",
			"S2 main 2: a 1",
			"S3 main 3: a 1",
			"T3:zero main 3: a 1",
			"C3 main 3: a 1",
			"S4 main 4: a 1, e zero",
			"D")},
		{"fn f() { return 1; }\nvar f = f();\n2;", lines(
			"- main 0:",
			"S2 main 2:",
			"S1 main 2: ; f 1:",
			"S3 main 3: f 1",
			"D")},
	})
}

// 8.1: variables are those of scopes that are not left, in the order of the text; behind an Out the scopes of its Print are not left yet.
func TestScopes(t *testing.T) {
	checkSeen(t, []seen{
		{"var a = 1;\nif (true) {\nvar b = 2;\nprint(b); }\nvar c = 3;\n4;", lines(
			"- main 0:",
			"S1 main 1:",
			"S2 main 2: a 1",
			"S3 main 3: a 1",
			"S4 main 4: a 1, b 2",
			"O:2 main 4: a 1, b 2",
			"S5 main 5: a 1",
			"S6 main 6: a 1, c 3",
			"D")},
		{"if (true) { var a = 1; if (true) { var b = 2; try { var c = 3; print(c); } catch (e) {} } }\n4;", lines(
			"- main 0:",
			"S1 main 1:",
			"S1 main 1:",
			"S1 main 1: a 1",
			"S1 main 1: a 1",
			"S1 main 1: a 1, b 2",
			"S1 main 1: a 1, b 2",
			"S1 main 1: a 1, b 2, c 3",
			"O:3 main 1: a 1, b 2, c 3",
			"S2 main 2:",
			"D")},
		{"if (false) { var a = 1; } else {\nvar b = 2;\nprint(b); }\n3;", lines(
			"- main 0:",
			"S1 main 1:",
			"S2 main 2:",
			"S3 main 3: b 2",
			"O:2 main 3: b 2",
			"S4 main 4:",
			"D")},
		{"if (true) { var a = 1; print(a); } else { var b = 2; }\nif (false) { var c = 3; }\n4;", lines(
			"- main 0:",
			"S1 main 1:",
			"S1 main 1:",
			"S1 main 1: a 1",
			"O:1 main 1: a 1",
			"S2 main 2:",
			"S3 main 3:",
			"D")},
		{"fn f() {\nif (true) { var a = 1; return a; }\nvar b = 2; }\nprint(f());", lines(
			"- main 0:",
			"S4 main 4:",
			"S2 main 4: ; f 2:",
			"S2 main 4: ; f 2:",
			"S2 main 4: ; f 2: a 1",
			"O:1 main 4:",
			"D")},
		{"fn f(a) { if (true) { var b = a; print(b); } }\nf(1);\n2;", lines(
			"- main 0:",
			"S2 main 2:",
			"S1 main 2: ; f 1: a 1",
			"S1 main 2: ; f 1: a 1",
			"S1 main 2: ; f 1: a 1, b 1",
			"O:1 main 2: ; f 1: a 1, b 1",
			"S3 main 3:",
			"D")},
		{"fn f() {\n1; }\nif (true) { var a = 2; f(); }\n3;", lines(
			"- main 0:",
			"S3 main 3:",
			"S3 main 3:",
			"S3 main 3: a 2",
			"S2 main 3: a 2; f 2:",
			"S4 main 4:",
			"D")},
	})
}

// 8.1: variables of one name, in scopes within each other and in such as follow each other, are each there, or not, for themselves.
func TestOneName(t *testing.T) {
	checkSeen(t, []seen{
		{"var a = 1;\nif (true) {\nvar a = 2;\nif (true) {\nvar a = a + 1;\nprint(a); }\nprint(a); }\nprint(a);", lines(
			"- main 0:",
			"S1 main 1:",
			"S2 main 2: a 1",
			"S3 main 3: a 1",
			"S4 main 4: a 1, a 2",
			"S5 main 5: a 1, a 2",
			"S6 main 6: a 1, a 2, a 3",
			"O:3 main 6: a 1, a 2, a 3",
			"S7 main 7: a 1, a 2",
			"O:2 main 7: a 1, a 2",
			"S8 main 8: a 1",
			"O:1 main 8: a 1",
			"D")},
		{"if (true) { var a = 1; print(a); }\nif (true) {\nvar b = 0; var a = 2;\nprint(a); }", lines(
			"- main 0:",
			"S1 main 1:",
			"S1 main 1:",
			"S1 main 1: a 1",
			"O:1 main 1: a 1",
			"S2 main 2:",
			"S3 main 3:",
			"S3 main 3: b 0",
			"S4 main 4: b 0, a 2",
			"O:2 main 4: b 0, a 2",
			"D")},
		{"fn f(a) {\nif (true) { var a = a + 1; a = a + 1;\n1; }\n2; }\nvar a = 5;\nf(a);", lines(
			"- main 0:",
			"S5 main 5:",
			"S6 main 6: a 5",
			"S2 main 6: a 5; f 2: a 5",
			"S2 main 6: a 5; f 2: a 5",
			"S2 main 6: a 5; f 2: a 5, a 6",
			"S3 main 6: a 5; f 3: a 5, a 7",
			"S4 main 6: a 5; f 4: a 5",
			"D")},
		{"var e = 1;\ntry { throw 2; } catch (e) {\ntry { throw 3; } catch (e) {\nprint(e); }\nprint(e); }", lines(
			"- main 0:",
			"S1 main 1:",
			"S2 main 2: e 1",
			"S2 main 2: e 1",
			"T2:2 main 2: e 1",
			"C2 main 2: e 1",
			"S3 main 3: e 1, e 2",
			"S3 main 3: e 1, e 2",
			"T3:3 main 3: e 1, e 2",
			"C3 main 3: e 1, e 2",
			"S4 main 4: e 1, e 2, e 3",
			"O:3 main 4: e 1, e 2, e 3",
			"S5 main 5: e 1, e 2",
			"O:2 main 5: e 1, e 2",
			"D")},
	})
}

// 8.1: each time round a loop its variables are new: not there ahead of their statement, whatever they were the last time.
func TestLoops(t *testing.T) {
	checkSeen(t, []seen{
		{"var i = 0;\nwhile (i < 2) {\nvar j = i * 10;\ni = i + 1; }\nprint(i);", lines(
			"- main 0:",
			"S1 main 1:",
			"S2 main 2: i 0",
			"S3 main 3: i 0",
			"S4 main 4: i 0, j 0",
			"S2 main 2: i 1",
			"S3 main 3: i 1",
			"S4 main 4: i 1, j 10",
			"S2 main 2: i 2",
			"S5 main 5: i 2",
			"O:2 main 5: i 2",
			"D")},
		{"var i = 0;\nvar f = nil;\nwhile (i < 2) {\nvar j = i;\nif (f == nil) { f = fn() { j = j + 7; return j; }; }\ni = i + f(); }", lines(
			"- main 0:",
			"S1 main 1:",
			"S2 main 2: i 0",
			"S3 main 3: i 0, f nil",
			"S4 main 4: i 0, f nil",
			"S5 main 5: i 0, f nil, j 0",
			"S5 main 5: i 0, f nil, j 0",
			"S6 main 6: i 0, f fn#1, j 0",
			"S5 main 6: i 0, f fn#1, j 0; fn 5:",
			"S5 main 6: i 0, f fn#1, j 7; fn 5:",
			"S3 main 3: i 7, f fn#1",
			"D")},
		{"var i = 0;\nwhile (i < 2) { i = i + 1; if (i == 1) { var k = i; print(k); } else { var l = i; print(l); } }", lines(
			"- main 0:",
			"S1 main 1:",
			"S2 main 2: i 0",
			"S2 main 2: i 0",
			"S2 main 2: i 1",
			"S2 main 2: i 1",
			"S2 main 2: i 1, k 1",
			"O:1 main 2: i 1, k 1",
			"S2 main 2: i 1",
			"S2 main 2: i 1",
			"S2 main 2: i 2",
			"S2 main 2: i 2",
			"S2 main 2: i 2, l 2",
			"O:2 main 2: i 2, l 2",
			"S2 main 2: i 2",
			"D")},
	})
}

// 8.1: Catch's name is there behind Caught, from the next event on; behind Thrown the scopes within the Try that catches it are left, in the same function and across functions.
func TestCaught(t *testing.T) {
	checkSeen(t, []seen{
		{"var a = 1;\ntry {\nvar b = 2;\nif (true) { var c = 3; throw c; } }\ncatch (e) {\nvar d = e;\nprint(d); }\n4;", lines(
			"- main 0:",
			"S1 main 1:",
			"S2 main 2: a 1",
			"S3 main 3: a 1",
			"S4 main 4: a 1, b 2",
			"S4 main 4: a 1, b 2",
			"S4 main 4: a 1, b 2, c 3",
			"T4:3 main 4: a 1",
			"C5 main 5: a 1",
			"S6 main 6: a 1, e 3",
			"S7 main 7: a 1, e 3, d 3",
			"O:3 main 7: a 1, e 3, d 3",
			"S8 main 8: a 1",
			"D")},
		{"try { throw 1; } catch (e) {}\n2;", lines(
			"- main 0:",
			"S1 main 1:",
			"S1 main 1:",
			"T1:1 main 1:",
			"C1 main 1:",
			"S2 main 2:",
			"D")},
		{"try { throw 1; } catch (e) { throw e; }", lines(
			"- main 0:",
			"S1 main 1:",
			"S1 main 1:",
			"T1:1 main 1:",
			"C1 main 1:",
			"S1 main 1: e 1",
			"T1:1 main 1:",
			"X:1")},
		{"fn f(a) {\nvar b = a;\ng([b]); }\nfn g(c) {\nvar d = c;\nthrow d; }\nif (true) { var h = 1; try { var i = 2;\nf(3); } catch (e) {\nprint(e); } }", lines(
			"- main 0:",
			"S7 main 7:",
			"S7 main 7:",
			"S7 main 7: h 1",
			"S7 main 7: h 1",
			"S8 main 8: h 1, i 2",
			"S2 main 8: h 1, i 2; f 2: a 3",
			"S3 main 8: h 1, i 2; f 3: a 3, b 3",
			"S5 main 8: h 1, i 2; f 3: a 3, b 3; g 5: c list#1",
			"S6 main 8: h 1, i 2; f 3: a 3, b 3; g 6: c list#1, d list#1",
			"T6:list#1 main 8: h 1",
			"C8 main 8: h 1",
			"S9 main 9: h 1, e list#1",
			"O:list#1 main 9: h 1, e list#1",
			"D")},
		{"class A { m(x) {\nvar y = x;\ntry { var z = y; f(z); } catch (e) {\nreturn e; } } }\nfn f(u) {\nthrow u; }\nvar r = new A().m(1);\n2;", lines(
			"- main 0:",
			"S7 main 7:",
			"S2 main 7: ; A.m 2: this A#1, x 1",
			"S3 main 7: ; A.m 3: this A#1, x 1, y 1",
			"S3 main 7: ; A.m 3: this A#1, x 1, y 1",
			"S3 main 7: ; A.m 3: this A#1, x 1, y 1, z 1",
			"S6 main 7: ; A.m 3: this A#1, x 1, y 1, z 1; f 6: u 1",
			"T6:1 main 7: ; A.m 3: this A#1, x 1, y 1",
			"C3 main 7: ; A.m 3: this A#1, x 1, y 1",
			"S4 main 7: ; A.m 4: this A#1, x 1, y 1, e 1",
			"S8 main 8: r 1",
			"D")},
		{"try {\nvar a = 1; try { var b = 2; throw b; } catch (e) { var c = 3; throw c; } }\ncatch (e) { print(e); }", lines(
			"- main 0:",
			"S1 main 1:",
			"S2 main 2:",
			"S2 main 2: a 1",
			"S2 main 2: a 1",
			"S2 main 2: a 1, b 2",
			"T2:2 main 2: a 1",
			"C2 main 2: a 1",
			"S2 main 2: a 1, e 2",
			"S2 main 2: a 1, e 2, c 3",
			"T2:3 main 2:",
			"C3 main 3:",
			"S3 main 3: e 3",
			"O:3 main 3: e 3",
			"D")},
		{"try { throw 1; } catch (e) { var f = fn() { e = e + 1; };\nf();\nprint(e); }", lines(
			"- main 0:",
			"S1 main 1:",
			"S1 main 1:",
			"T1:1 main 1:",
			"C1 main 1:",
			"S1 main 1: e 1",
			"S2 main 2: e 1, f fn#1",
			"S1 main 2: e 1, f fn#1; fn 1:",
			"S3 main 3: e 2, f fn#1",
			"O:2 main 3: e 2, f fn#1",
			"D")},
	})
}

// 8.1: behind a Thrown that nobody catches the program's own function is there, at its line, and no variable.
func TestNobodyCatches(t *testing.T) {
	checkSeen(t, []seen{
		{"var a = 1;\nprint(a / 0);", lines("- main 0:", "S1 main 1:", "S2 main 2: a 1", "T2:zero main 2:", "X:zero")},
		{"fn f(b) {\nvar c = [b];\nthrow c; }\nvar a = 1;\nif (true) { var d = 2; var g = fn() { return a + d; };\nf(g); }", lines(
			"- main 0:",
			"S4 main 4:",
			"S5 main 5: a 1",
			"S5 main 5: a 1",
			"S5 main 5: a 1, d 2",
			"S6 main 6: a 1, d 2, g fn#1",
			"S2 main 6: a 1, d 2, g fn#1; f 2: b fn#1",
			"S3 main 6: a 1, d 2, g fn#1; f 3: b fn#1, c list#2",
			"T3:list#2 main 6:",
			"X:list#2")},
		{"try { 1; } catch (e) {}\nvar a = 2;\nthrow a;", lines(
			"- main 0:",
			"S1 main 1:",
			"S1 main 1:",
			"S2 main 2:",
			"S3 main 3: a 2",
			"T3:2 main 3:",
			"X:2")},
		{"try { throw 1; } catch (e) {\nvar a = e;\nthrow a; }", lines(
			"- main 0:",
			"S1 main 1:",
			"S1 main 1:",
			"T1:1 main 1:",
			"C1 main 1:",
			"S2 main 2: e 1",
			"S3 main 3: e 1, a 1",
			"T3:1 main 3:",
			"X:1")},
	})
}

// 8.1: what functions share is one variable: it is told where it was declared alone, as it is by then, whoever set it.
func TestSharedVariables(t *testing.T) {
	checkSeen(t, []seen{
		{"var a = 1;\nvar f = fn(b) {\na = a + b;\nvar c = b;\nreturn fn() {\nc = c + a; return c; }; };\nvar g = f(2);\na = 10;\nprint(g());\nprint(g());", lines(
			"- main 0:",
			"S1 main 1:",
			"S2 main 2: a 1",
			"S7 main 7: a 1, f fn#1",
			"S3 main 7: a 1, f fn#1; fn 3: b 2",
			"S4 main 7: a 3, f fn#1; fn 4: b 2",
			"S5 main 7: a 3, f fn#1; fn 5: b 2, c 2",
			"S8 main 8: a 3, f fn#1, g fn#2",
			"S9 main 9: a 10, f fn#1, g fn#2",
			"S6 main 9: a 10, f fn#1, g fn#2; fn 6:",
			"S6 main 9: a 10, f fn#1, g fn#2; fn 6:",
			"O:12 main 9: a 10, f fn#1, g fn#2",
			"S10 main 10: a 10, f fn#1, g fn#2",
			"S6 main 10: a 10, f fn#1, g fn#2; fn 6:",
			"S6 main 10: a 10, f fn#1, g fn#2; fn 6:",
			"O:22 main 10: a 10, f fn#1, g fn#2",
			"D")},
		{"fn f() {\nvar a = [1];\nvar g = fn() { a = 2; };\ng();\nvar h = fn() { a = \"3\"; };\nh();\nreturn a; }\nprint(f());", lines(
			"- main 0:",
			"S8 main 8:",
			"S2 main 8: ; f 2:",
			"S3 main 8: ; f 3: a list#1",
			"S4 main 8: ; f 4: a list#1, g fn#2",
			"S3 main 8: ; f 4: a list#1, g fn#2; fn 3:",
			"S5 main 8: ; f 5: a 2, g fn#2",
			"S6 main 8: ; f 6: a 2, g fn#2, h fn#3",
			"S5 main 8: ; f 6: a 2, g fn#2, h fn#3; fn 5:",
			"S7 main 8: ; f 7: a 3, g fn#2, h fn#3",
			"O:3 main 8:",
			"D")},
	})
}

// 8.1: more variables than a list may have elements, all shared with one function, are each there.
func TestManyShared(t *testing.T) {
	var declared, set, was, is strings.Builder
	for n := range api.MaxList + 5 {
		fmt.Fprintf(&declared, "var v%d=%d;", n, n)
		fmt.Fprintf(&set, "v%d=[v%d];", n, n)
		fmt.Fprintf(&was, "v%d %d, ", n, n)
		fmt.Fprintf(&is, "v%d list#%d, ", n, n+2)
	}
	x := started(t, compiled(t, declared.String()+"\nvar f=fn(){"+set.String()+"};\nf();\n1;"), tight(1))
	for e := (api.Event{}); e.Line != 3; {
		e, _ = x.Next()
	}
	if got, want := framesOf(t, x), "main 3: "+was.String()+"f fn#1"; got != want {
		t.Errorf("%s, want %s", got, want)
	}
	for e := (api.Event{}); e.Line != 4; {
		e, _ = x.Next()
	}
	if got, want := framesOf(t, x), "main 4: "+is.String()+"f fn#1"; got != want {
		t.Errorf("%s, want %s", got, want)
	}
}

// 8.1, 6.2: what a variable is is told as Show tells it: values of all kinds, texts as they are.
func TestShown(t *testing.T) {
	text := "class A {}\nvar a = nil; var b = true; var c = false; var d = -9223372036854775808; var e = 9223372036854775807; var f = \"\"; var g = \"x, \\\"\\\\\\n: 1\"; var h = [nil]; var i = new A(); var j = fn() {}; var k = \"list#1\";\nprint(g);"
	x := started(t, compiled(t, text), tight(1))
	for range 12 {
		x.Next()
	}
	l, err := Frames(x)
	if err != nil || len(l) != 1 || l[0].Func != "main" || l[0].Line != 3 {
		t.Fatalf("%+v, error %v", l, err)
	}
	want := []Var{{"a", "nil"}, {"b", "true"}, {"c", "false"}, {"d", "-9223372036854775808"}, {"e", "9223372036854775807"}, {"f", ""}, {"g", "x, \"\\\n: 1"}, {"h", "list#1"}, {"i", "A#2"}, {"j", "fn#3"}, {"k", "list#1"}}
	if len(l[0].Vars) != len(want) {
		t.Fatalf("%q, want %q", l[0].Vars, want)
	}
	for i, v := range l[0].Vars {
		if v != want[i] {
			t.Errorf("%q, want %q", v, want[i])
		}
	}
}

// 8.1: as many functions as may be are under way.
func TestManyFunctions(t *testing.T) {
	x := started(t, compiled(t, "fn f(n) {\nreturn f(n + 1); }\nf(0);"), vm.Config{Nursery: 1, Old: 1})
	for n := range 26 {
		x.Next()
		l, err := Frames(x)
		if err != nil || len(l) != n+1 || l[0].Func != "main" || l[0].Line != 3 {
			t.Fatalf("behind %d events: %+v, error %v", n+1, l, err)
		}
	}
	l, _ := Frames(x)
	for i, f := range l[1:] {
		if got, want := frames([]Frame{f}), fmt.Sprint("f 2: n ", i); got != want {
			t.Errorf("%s, want %s", got, want)
		}
	}
	x.Next()
	if got := framesOf(t, x); got != "main 3: " {
		t.Errorf("behind Thrown of depth: %s", got)
	}
}
