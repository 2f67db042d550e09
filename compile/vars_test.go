package compile

import "testing"

// Vars tell which variables are there behind each event: behind its statement's value, in scopes that are not left, in the order of the text.
func TestVars(t *testing.T) {
	for text, want := range map[string]string{
		"var a = 7;\nprint(a);":                                                                         "S1[] S2[a=7] O:7[a=7] D",
		"var a = 1;\nvar b = a + 1;\na = 5;":                                                            "S1[] S2[a=1] S3[a=1 b=2] D",
		"if (true) {\nvar a = 1;\nprint(a);\n}\nvar b = 2;\nb;":                                         "S1[] S2[] S3[a=1] O:1[a=1] S5[] S6[b=2] D",
		"if (true) { var a = 1; } else { var b = 2; }\n3;":                                              "S1[] S1[] S2[] D",
		"if (false) { var a = 1; } else { var b = 2;\nprint(b); }":                                      "S1[] S1[] S2[b=2] O:2[b=2] D",
		"if (true) { var a = 1; if (true) { var a = 2;\nprint(a); } print(a); }":                        "S1[] S1[] S1[a=1] S1[a=1] S2[a=1 a=2] O:2[a=1 a=2] S2[a=1] O:1[a=1] D",
		"var i = 0;\nwhile (i < 2) { var j = i;\ni = j + 1; }":                                          "S1[] S2[i=0] S2[i=0] S3[i=0 j=0] S2[i=1] S2[i=1] S3[i=1 j=1] S2[i=2] D",
		"fn f(a, b) {\nvar c = a;\nreturn c; }\nvar d = f(1, 2);\n1;":                                   "S4[] S2[][a=1 b=2] S3[][a=1 b=2 c=1] S5[d=1] D",
		"fn f(a) {\nthrow a; }\nvar b = 3;\ntry { var c = 4;\nf(5); } catch (e) {\nvar g = e;\ng; } 1;": "S3[] S4[b=3] S4[b=3] S5[b=3 c=4] S2[b=3 c=4][a=5] T2:5[b=3] C5[b=3] S6[b=3 e=5] S7[b=3 e=5 g=5] S7[b=3] D",
		"var a = 1; try { throw 2; } catch (e) {}\n3;":                                                  "S1[] S1[a=1] S1[a=1] T1:2[a=1] C1[a=1] S2[a=1] D",
		"class A { field p; m(x, y) {\nvar z = x;\nreturn this; } }\nnew A().m(1, 2);":                  "S4[] S2[][this=A#1 x=1 y=2] S3[][this=A#1 x=1 y=2 z=1] D",
		// In boxes, too; a function that is within shows its own ones alone.
		"var a = 1;\nvar f = fn(b) {\nvar c = b; a = 5;\nreturn fn() { return b + c; }; };\nprint(f(2)());": "S1[] S2[a=1] S5[a=1 f=fn#1] S3[a=1 f=fn#1][b=2] S3[a=1 f=fn#1][b=2 c=2] S4[a=5 f=fn#1][b=2 c=2] S4[a=5 f=fn#1][] O:4[a=5 f=fn#1] D",
		"class A { m(x) {\nreturn fn() { x = 9;\nreturn this; }; } }\nprint(new A().m(1)());":               "S4[] S2[][this=A#1 x=1] S2[][] S3[][] O:A#1[] D",
		"try { throw 1; } catch (e) { var f = fn() { return e; };\nprint(e); }":                             "S1[] S1[] T1:1[] C1[] S1[e=1] S2[e=1 f=fn#1] O:1[e=1 f=fn#1] D",
		"try { try { var a = 1; throw a; } catch (e) { var b = 2; throw b; } } catch (e) {\nprint(e); }":    "S1[] S1[] S1[] S1[a=1] T1:1[] C1[] S1[e=1] S1[e=1 b=2] T1:2[] C1[] S2[e=2] O:2[e=2] D",
		// Behind what nobody catches there are none.
		"var a = 1;\nfn f(b) {\nvar c = 2; throw b; }\ntry { var d = 1;\nthrow d; } catch (e) {\nf(e); }": "S1[] S4[a=1] S4[a=1] S5[a=1 d=1] T5:1[a=1] C5[a=1] S6[a=1 e=1] S3[a=1 e=1][b=1] S3[a=1 e=1][b=1 c=2] T3:1[] X:1",
	} {
		if got := seenAt(t, mustCompile(t, text)); got != want {
			t.Errorf("%q:\n%s, want\n%s", text, got, want)
		}
	}
}
