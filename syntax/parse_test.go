package syntax

import (
	"strings"
	"testing"

	"rewind/api"
)

type reads struct{ text, want string }

func checkReads(t *testing.T, lines bool, l []reads) {
	t.Helper()
	for _, c := range l {
		if got := sketch(mustParse(t, c.text), lines); got != c.want {
			t.Errorf("%q: %s, want %s", c.text, got, c.want)
		}
	}
}

// 1.2: classes and functions.
func TestParseOutermost(t *testing.T) {
	checkReads(t, false, []reads{
		{"", "Program"},
		{" \n ", "Program"},
		{"class A {}", "Program[Class:A]"},
		{"class A < B {}", "Program[Class:A<B]"},
		{"class A { field a; field b; m() {} n(x) {} }", "Program[Class:A[Field:a Field:b Method:m[Params Block] Method:n[Params[Name:x] Block]]]"},
		{"class A { init(x, y) { return x; } }", "Program[Class:A[Method:init[Params[Name:x Name:y] Block[Return[Name:x]]]]]"},
		{"fn f() {}", "Program[Fn:f[Params Block]]"},
		{"fn f(a, b) { a; b; }", "Program[Fn:f[Params[Name:a Name:b] Block[Do[Name:a] Do[Name:b]]]]"},
		{"fn f() {} class A {} fn g() {} 1;", "Program[Fn:f[Params Block] Class:A Fn:g[Params Block] Do[Int#1]]"},
	})
}

// 1.2: statements.
func TestParseStatements(t *testing.T) {
	checkReads(t, false, []reads{
		{"var a = 1;", "Program[Var:a[Int#1]]"},
		{"a = 1;", "Program[Set[Name:a Int#1]]"},
		{"a.b = 1;", "Program[Set[Get:b[Name:a] Int#1]]"},
		{"a[0] = 1;", "Program[Set[Elem[Name:a Int] Int#1]]"},
		{"a.b(1).c[2] = 1;", "Program[Set[Elem[Get:c[Send:b[Name:a Int#1]] Int#2] Int#1]]"},
		{"((a)) = 1;", "Program[Set[Name:a Int#1]]"},
		{"if (a) {}", "Program[If[Name:a Block]]"},
		{"if (a) { b; } else { c; }", "Program[If[Name:a Block[Do[Name:b]] Block[Do[Name:c]]]]"},
		{"if (a) {} else { if (b) {} }", "Program[If[Name:a Block Block[If[Name:b Block]]]]"},
		{"while (a) { b; }", "Program[While[Name:a Block[Do[Name:b]]]]"},
		{"return;", "Program[Return]"},
		{"return 1;", "Program[Return[Int#1]]"},
		{"throw a;", "Program[Throw[Name:a]]"},
		{"print(a);", "Program[Print[Name:a]]"},
		{"print((a));", "Program[Print[Name:a]]"},
		{"try { a; } catch (e) { b; }", "Program[Try[Block[Do[Name:a]] Catch:e[Block[Do[Name:b]]]]]"},
		{"1;", "Program[Do[Int#1]]"},
		{"if (a) { fn() {}; }", "Program[If[Name:a Block[Do[Lambda[Params Block]]]]]"},
		{"if (a) { fn() {}[0] = 1; }", "Program[If[Name:a Block[Set[Elem[Lambda[Params Block] Int] Int#1]]]]"},
	})
}

// 1.2: each sign's strength, and that values go from the left.
func TestParseStrength(t *testing.T) {
	marks := [][]string{{"||"}, {"&&"}, {"=="}, {"<"}, {"+", "-"}, {"*", "/", "%"}}
	kind := map[string]string{"||": "Or", "&&": "And", "==": "Same", "<": "Less", "+": "Add", "-": "Sub", "*": "Mul", "/": "Div", "%": "Mod"}
	for i, weak := range marks {
		for j, strong := range marks {
			for _, w := range weak {
				for _, s := range strong {
					want := "Program[Do[" + kind[s] + "[" + kind[w] + "[Name:a Name:b] Name:c]]]"
					if j > i {
						want = "Program[Do[" + kind[w] + "[Name:a " + kind[s] + "[Name:b Name:c]]]]"
					}
					checkReads(t, false, []reads{{"a " + w + " b " + s + " c;", want}})
				}
			}
		}
	}
}

// 1.2: what is stronger than all that stands between two values.
func TestParseValues(t *testing.T) {
	do := func(text, want string) reads { return reads{text + ";", "Program[Do[" + want + "]]"} }
	checkReads(t, false, []reads{
		do("-a", "Neg[Name:a]"), do("!a", "Not[Name:a]"), do("-!-a", "Neg[Not[Neg[Name:a]]]"), do("-1", "Neg[Int#1]"),
		do("-a * b", "Mul[Neg[Name:a] Name:b]"), do("a * -b", "Mul[Name:a Neg[Name:b]]"), do("a - -b", "Sub[Name:a Neg[Name:b]]"),
		do("!a == b", "Same[Not[Name:a] Name:b]"), do("!a && !b", "And[Not[Name:a] Not[Name:b]]"),
		do("-a.b", "Neg[Get:b[Name:a]]"), do("-a[0]", "Neg[Elem[Name:a Int]]"), do("!a(b)", "Not[Call[Name:a Name:b]]"), do("(-a).b", "Get:b[Neg[Name:a]]"),
		do("a.b", "Get:b[Name:a]"), do("a.b()", "Send:b[Name:a]"), do("a.b(1, 2)", "Send:b[Name:a Int#1 Int#2]"), do("(a.b)(1)", "Call[Get:b[Name:a] Int#1]"),
		do("a()", "Call[Name:a]"), do("a(1)(2)", "Call[Call[Name:a Int#1] Int#2]"), do("a.b()()", "Call[Send:b[Name:a]]"), do("a[b][c]", "Elem[Elem[Name:a Name:b] Name:c]"),
		do("1.a", "Get:a[Int#1]"), do("1(2)", "Call[Int#1 Int#2]"), do(`"a"[0]`, "Elem[Str:a Int]"), do("nil.a()", "Send:a[Nil]"),
		do("true", "True"), do("false", "False"), do("nil", "Nil"), do("this", "This"), do("a", "Name:a"), do(`"s"`, "Str:s"), do(`""`, "Str"),
		do("new A()", "New:A"), do("new A(1, b)", "New:A[Int#1 Name:b]"), do("new A().m()", "Send:m[New:A]"), do("new A()(1)", "Call[New:A Int#1]"),
		do("super.m()", "Super:m"), do("super.m(1).n", "Get:n[Super:m[Int#1]]"),
		do("[]", "List"), do("[1]", "List[Int#1]"), do("[a, [b], c][1]", "Elem[List[Name:a List[Name:b] Name:c] Int#1]"),
		do("input()", "Input"), do("len(a)", "Len[Name:a]"), do("len(a + b)[0]", "Elem[Len[Add[Name:a Name:b]] Int]"),
		do("(a)", "Name:a"), do("((a))", "Name:a"), do("(a + b) * c", "Mul[Add[Name:a Name:b] Name:c]"), do("a - (b - c)", "Sub[Name:a Sub[Name:b Name:c]]"),
		do("(fn(x) { return x; })(1)", "Call[Lambda[Params[Name:x] Block[Return[Name:x]]] Int#1]"),
		do("[fn() {}(1)]", "List[Call[Lambda[Params Block] Int#1]]"), do("a(fn(x, y) {})", "Call[Name:a Lambda[Params[Name:x Name:y] Block]]"),
	})
}

// 1.2: lines.
func TestParseLines(t *testing.T) {
	checkReads(t, true, []reads{
		{"", "Program@1"},
		{"1;", "Program@1[Do@1[Int@1#1]]"},
		{"\n\n1;\n2;", "Program@3[Do@3[Int@3#1] Do@4[Int@4#2]]"},
		{"class\nA\n{\nfield\na\n;\nm\n(\n)\n{\n}\n}", "Program@1[Class@1:A[Field@4:a Method@7:m[Params@8 Block@10]]]"},
		{"fn\nf\n(\nx\n)\n{\n}", "Program@1[Fn@1:f[Params@3[Name@4:x] Block@6]]"},
		{"var\na\n=\n1;", "Program@1[Var@1:a[Int@4#1]]"},
		{"a\n=\n1;", "Program@1[Set@1[Name@1:a Int@3#1]]"},
		{"if\n(\na)\n{\n}\nelse\n{\n}", "Program@1[If@1[Name@3:a Block@4 Block@7]]"},
		{"\nwhile (\na) {\nb; }", "Program@2[While@2[Name@3:a Block@3[Do@4[Name@4:b]]]]"},
		{"return\n1;", "Program@1[Return@1[Int@2#1]]"},
		{"throw\n1;print\n(\n1);", "Program@1[Throw@1[Int@2#1] Print@2[Int@4#1]]"},
		{"try\n{}\ncatch\n(\ne\n)\n{}", "Program@1[Try@1[Block@2 Catch@3:e[Block@7]]]"},
		{"a\n+\nb\n*\nc;", "Program@1[Do@1[Add@1[Name@1:a Mul@3[Name@3:b Name@5:c]]]]"},
		{"(\na\n)\n+\nb;", "Program@1[Do@1[Add@2[Name@2:a Name@5:b]]]"},
		{"(\na) = 1;", "Program@1[Set@1[Name@2:a Int@2#1]]"},
		{"-\na\n-\n!\nb;", "Program@1[Do@1[Sub@1[Neg@1[Name@2:a] Not@4[Name@5:b]]]]"},
		{"a\n.\nb\n(\nc)\n.\nd\n[\ne]\n(\nf);", "Program@1[Do@1[Call@1[Elem@1[Get@1:d[Send@1:b[Name@1:a Name@5:c]] Name@9:e] Name@11:f]]]"},
		{"(\n-\na)\n.b;", "Program@1[Do@1[Get@2:b[Neg@2[Name@3:a]]]]"},
		{"f(\nnew\nA(),\nsuper\n.m(),\n[\n1],\nfn\n(\n)\n{},\ninput\n(),\nlen\n(a));", "Program@1[Do@1[Call@1[Name@1:f New@2:A Super@4:m List@6[Int@7#1] Lambda@8[Params@9 Block@11] Input@12 Len@14[Name@15:a]]]]"},
		{"\"\\n\";\nnil;", "Program@1[Do@1[Str@1:\n] Do@2[Nil@2]]"},
	})
}

// The whole, 1: line feeds ahead of a program shift its lines, and change nothing else.
func TestLinesShift(t *testing.T) {
	for _, text := range []string{"", "1;", "a\n=\n2;", "class A {\nfield a;\nm() {\nreturn fn(x) {\nreturn\nx; }; } }", "\n\ntry {} catch (e) {\n-e; }"} {
		n := mustParse(t, text)
		shift(n, 5)
		if got := sketch(mustParse(t, strings.Repeat("\n", 5)+text), true); got != sketch(n, true) {
			t.Errorf("%q: %s, want %s", text, got, sketch(n, true))
		}
	}
}

func shift(n *api.Node, lines int) {
	n.Line += lines
	for _, k := range n.Kids {
		shift(k, lines)
	}
}
