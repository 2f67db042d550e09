package syntax

import (
	"strings"
	"testing"

	"rewind/api"
)

// 1.4: heads, statements, blocks.
func TestTextStatements(t *testing.T) {
	for _, c := range [][2]string{
		{"", ""},
		{"class A{}", "class A {\n}\n"},
		{"class A<B{field a;field b;m(){}n(x,y){return;}}", "class A < B {\n  field a;\n  field b;\n  m() {\n  }\n  n(x, y) {\n    return;\n  }\n}\n"},
		{"fn f(){}", "fn f() {\n}\n"},
		{"fn f(a,b){a;b;}1;", "fn f(a, b) {\n  a;\n  b;\n}\n1;\n"},
		{"var a=1;a=2;a.b=3;a[0]=4;(a)=5;", "var a = 1;\na = 2;\na.b = 3;\na[0] = 4;\na = 5;\n"},
		{"if(a){}", "if (a) {\n}\n"},
		{"if(a){b;}else{c;}", "if (a) {\n  b;\n}\nelse {\n  c;\n}\n"},
		{"if(a){if(b){}else{c;}}else{}", "if (a) {\n  if (b) {\n  }\n  else {\n    c;\n  }\n}\nelse {\n}\n"},
		{"while(a<b){a=a+1;}", "while (a < b) {\n  a = a + 1;\n}\n"},
		{"return;return 1;return[];return(1);return-a;", "return;\nreturn 1;\nreturn [];\nreturn 1;\nreturn -a;\n"},
		{"throw a;throw(a);throw-a;", "throw a;\nthrow a;\nthrow -a;\n"},
		{"print(a);print((a));", "print(a);\nprint(a);\n"},
		{"try{a;}catch(e){b;}", "try {\n  a;\n}\ncatch (e) {\n  b;\n}\n"},
		{"while(a){try{}catch(e){}}", "while (a) {\n  try {\n  }\n  catch (e) {\n  }\n}\n"},
		{"\n\n 1 ;\n\n\n2 ; ", "1;\n2;\n"},
	} {
		if got := Text(mustParse(t, c[0])); got != c[1] {
			t.Errorf("%q: %q, want %q", c[0], got, c[1])
		}
	}
}

// 1.4: values, each as it stands in a statement.
func TestTextValues(t *testing.T) {
	for _, c := range [][2]string{
		{"1+2", "1 + 2"}, {"a||b&&c==d<e+f*g", "a || b && c == d < e + f * g"}, {"a/b%c*d", "a / b % c * d"},
		{"- a", "-a"}, {"! a", "!a"}, {"- - a", "--a"}, {"-(-a)", "--a"}, {"!(!a)", "!!a"}, {"-(!a)", "-!a"}, {"a--b", "a - -b"}, {"(-a)-(-b)", "-a - -b"},
		{"a . b", "a.b"}, {"a . b ( c , d )", "a.b(c, d)"}, {"a ( b ) ( )", "a(b)()"}, {"a [ b ] [ 0 ]", "a[b][0]"},
		{"[ ]", "[]"}, {"[ a , b ] [ 0 ]", "[a, b][0]"}, {"[a]==[b]", "[a] == [b]"}, {"new A ( a )", "new A(a)"}, {"new A().b", "new A().b"},
		{"super . m ( a )", "super.m(a)"}, {"input ( )", "input()"}, {"len ( a )", "len(a)"}, {"len([a])", "len([a])"},
		{"true==false", "true == false"}, {"nil==this", "nil == this"}, {"1 .a", "1.a"}, {"1 (2)", "1(2)"},
		{"007", "7"}, {"000", "0"}, {"9223372036854775807", "9223372036854775807"}, {"9223372036854775808", "9223372036854775808"}, {"-9223372036854775808", "-9223372036854775808"},
		{`"a\n\"\\b"`, `"a\n\"\\b"`}, {`""`, `""`}, {"\"\t\xff\x00(\"", "\"\t\xff\x00(\""},
	} {
		for _, around := range [][2]string{{"", ";"}, {"var a = ", ";"}, {"print(", ");"}, {"a[", "] = b;"}, {"return ", ";"}} {
			text, want := around[0]+c[0]+around[1], around[0]+c[1]+around[1]+"\n"
			if got := Text(mustParse(t, text)); got != want {
				t.Errorf("%q: %q, want %q", text, got, want)
			}
		}
	}
}

// 1.4: parentheses where they must stand, and nowhere else.
func TestTextParentheses(t *testing.T) {
	for _, c := range [][2]string{
		{"(a)", "a"}, {"((a + b))", "a + b"}, {"(a + b) + c", "a + b + c"}, {"a + (b + c)", "a + (b + c)"}, {"a - (b + c)", "a - (b + c)"},
		{"(a * b) + c", "a * b + c"}, {"a + (b * c)", "a + b * c"}, {"(a + b) * c", "(a + b) * c"}, {"a * (b + c)", "a * (b + c)"}, {"a * (b / c)", "a * (b / c)"},
		{"(a || b) && c", "(a || b) && c"}, {"a || (b || c)", "a || (b || c)"}, {"a || (b && c)", "a || b && c"}, {"(a == b) == c", "a == b == c"}, {"a == (b == c)", "a == (b == c)"}, {"a < (b < c)", "a < (b < c)"},
		{"a == (b < c)", "a == b < c"}, {"(a == b) < c", "(a == b) < c"},
		{"-(a + b)", "-(a + b)"}, {"!(a == b)", "!(a == b)"}, {"-(a * b)", "-(a * b)"}, {"(-a) * b", "-a * b"}, {"-(a.b)", "-a.b"}, {"-(a(b))", "-a(b)"},
		{"(-a).b", "(-a).b"}, {"(!a)(b)", "(!a)(b)"}, {"(-a)[b]", "(-a)[b]"}, {"(-a).b(c)", "(-a).b(c)"}, {"(a + b).c", "(a + b).c"}, {"(a + b)[c]", "(a + b)[c]"}, {"(a && b)(c)", "(a && b)(c)"},
		{"(a.b)(c)", "(a.b)(c)"}, {"((a.b).c)(d)", "(a.b.c)(d)"}, {"(a.b).c(d)", "a.b.c(d)"}, {"(a.b)[c]", "a.b[c]"}, {"(a.b(c))(d)", "a.b(c)(d)"}, {"(a[b])(c)", "a[b](c)"}, {"(a.b)(c)(d)", "(a.b)(c)(d)"},
		{"a((b + c), (d))", "a(b + c, d)"}, {"[(a || b), c]", "[a || b, c]"}, {"a[(b || c)]", "a[b || c]"}, {"len((a || b))", "len(a || b)"}, {"new A((a || b))", "new A(a || b)"},
		{"(new A())(b)", "new A()(b)"}, {"([a])[b]", "[a][b]"},
	} {
		if got := Text(mustParse(t, c[0]+";")); got != c[1]+";\n" {
			t.Errorf("%q: %q, want %q", c[0], got, c[1])
		}
	}
}

// 1.4: Lambdas, in lines of their own within a value.
func TestTextLambdas(t *testing.T) {
	for _, c := range [][2]string{
		{"a=fn(){};", "a = fn() {\n};\n"},
		{"a=fn(x,y){return x;};", "a = fn(x, y) {\n  return x;\n};\n"},
		{"if(a){b(fn(){c;},d);}", "if (a) {\n  b(fn() {\n    c;\n  }, d);\n}\n"},
		{"a=fn(){return fn(){return b;};}(c);", "a = fn() {\n  return fn() {\n    return b;\n  };\n}(c);\n"},
		{"class A{m(){return[fn(){this;}];}}", "class A {\n  m() {\n    return [fn() {\n      this;\n    }];\n  }\n}\n"},
		{"if(fn(){a;}()){b;}", "if (fn() {\n  a;\n}()) {\n  b;\n}\n"},
		{"print(a+fn(){}+b);", "print(a + fn() {\n} + b);\n"},
		{"a=-fn(){}.b;", "a = -fn() {\n}.b;\n"},
		{"a=((fn(){}).b)(c);", "a = (fn() {\n}.b)(c);\n"},
		{"a=fn(){if(b){c;}else{d;}};", "a = fn() {\n  if (b) {\n    c;\n  }\n  else {\n    d;\n  }\n};\n"},
		// right in the program fn would begin a function
		{"(fn(){});", "(fn() {\n});\n"},
		{"(fn(){a;})(b);", "(fn() {\n  a;\n}(b));\n"},
		{"(fn(){})+a;", "(fn() {\n} + a);\n"},
		{"(fn(){}).a.b();", "(fn() {\n}.a.b());\n"},
		{"(fn(){})[0]=a;", "(fn() {\n}[0]) = a;\n"},
		{"(fn(){}).a=fn(){};", "(fn() {\n}.a) = fn() {\n};\n"},
		{"((fn(){}).a)(b);", "(fn() {\n}.a)(b);\n"},
		{"((fn(){})+a)*b;", "(fn() {\n} + a) * b;\n"},
		{"-fn(){};", "-fn() {\n};\n"},
		{"[fn(){}];", "[fn() {\n}];\n"},
		{"fnord(1);", "fnord(1);\n"},
		{"fn_=1;", "fn_ = 1;\n"},
		// in a block it would not
		{"if(a){(fn(){})(b);(fn(){})[0]=c;}", "if (a) {\n  fn() {\n  }(b);\n  fn() {\n  }[0] = c;\n}\n"},
		{"a=fn(){(fn(){});};", "a = fn() {\n  fn() {\n  };\n};\n"},
		{"class A{m(){(fn(){})();}}", "class A {\n  m() {\n    fn() {\n    }();\n  }\n}\n"},
	} {
		n := mustParse(t, c[0])
		if got := Text(n); got != c[1] {
			t.Errorf("%q: %q, want %q", c[0], got, c[1])
		}
		checkAgain(t, n)
	}
}

// 1.4: of nil, and of what is no program of its own.
func TestTextOfNone(t *testing.T) {
	if got := Text(nil); got != "" {
		t.Errorf("nil: %q", got)
	}
	var look func(n *api.Node)
	look = func(n *api.Node) {
		if n.Kind != api.Program && Text(n) != "" {
			t.Errorf("%s: %q", sketch(n, false), Text(n))
		}
		for _, k := range n.Kids {
			look(k)
		}
	}
	look(mustParse(t, "class A { field a; m(x) { if (x) { return; } else { -x; } } } try { a[0] = f(1); } catch (e) { print([a.b, fn() {}]); }"))
}

// checkAgain: what a program's text tells is that program again, and its text is the same.
func checkAgain(t *testing.T, n *api.Node) {
	t.Helper()
	text := Text(n)
	again, err := Parse(text)
	if err != nil {
		t.Errorf("%q: error %d at %d", text, api.Tell(err), place(err))
		return
	}
	if sketch(again, false) != sketch(n, false) {
		t.Errorf("%q: %s, want %s", text, sketch(again, false), sketch(n, false))
	}
	if Text(again) != text {
		t.Errorf("%q: written again %q", text, Text(again))
	}
}

// checkNeeded: no two parentheses of a program's text may be left out.
func checkNeeded(t *testing.T, n *api.Node) {
	t.Helper()
	text := Text(n)
	for _, pair := range pairs(text) {
		less := text[:pair[0]] + " " + text[pair[0]+1:pair[1]] + " " + text[pair[1]+1:]
		if other, err := Parse(less); err == nil && sketch(other, false) == sketch(n, false) {
			t.Errorf("%q: the parentheses at %d and %d need not stand there", text, pair[0], pair[1])
		}
	}
}

// pairs are the places of parentheses that belong to each other.
func pairs(text string) (l [][2]int) {
	var open []int
	x := lexer{source: text, line: 1}
	for x.advance(); x.now.kind != endToken; x.advance() {
		switch {
		case x.is("("):
			open = append(open, x.now.place)
		case x.is(")"):
			l = append(l, [2]int{open[len(open)-1], x.now.place})
			open = open[:len(open)-1]
		}
	}
	return l
}

// 1.2, 1.4: programs that are made at random: written loudly they are read as what they are, and their text is short and right.
func TestRandomPrograms(t *testing.T) {
	m := &maker{}
	right := 0
	for range 3000 {
		want := m.program()
		text := loud(want, m.gap)
		n, err := Parse(text)
		if api.Tell(err) == api.ErrLimit {
			continue
		}
		right++
		if err != nil || sketch(n, false) != sketch(want, false) {
			t.Fatalf("%q: error %d at %d, %s, want %s", text, api.Tell(err), place(err), sketch(n, false), sketch(want, false))
		}
		checkAgain(t, n)
		checkNeeded(t, n)
		checkSpaces(t, Text(n))
	}
	if right < 2000 {
		t.Errorf("only %d programs", right)
	}
}

// checkSpaces: no blank stands at a line's end, nor two of them within a line.
func checkSpaces(t *testing.T, text string) {
	t.Helper()
	for line := range strings.Lines(text) {
		line = strings.TrimLeft(strings.TrimSuffix(line, "\n"), " ")
		if line == "" || strings.HasSuffix(line, " ") || strings.Contains(line, "  ") {
			t.Errorf("%q: line %q", text, line)
		}
	}
}
