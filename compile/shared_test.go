package compile

import (
	"fmt"
	"slices"
	"strings"
	"testing"

	"rewind/api"
)

// sharedNames are the variables that Shared tells, by names and lines, sorted.
func sharedNames(t *testing.T, text string) string {
	t.Helper()
	var l []string
	for n, ok := range Shared(mustParse(t, text)) {
		if !ok || n.Kind != api.Var && n.Kind != api.Name && n.Kind != api.Catch {
			t.Errorf("%q: %v, %v", text, n, ok)
		}
		l = append(l, fmt.Sprint(n.Text, n.Line))
	}
	slices.Sort(l)
	return strings.Join(l, " ")
}

// Shared are the variables that functions within use, too, and no others; also of programs with which something is wrong.
func TestShared(t *testing.T) {
	for text, want := range map[string]string{
		"":                     "",
		"var a = 1; print(a);": "",
		"var a = 1;\nvar b = 2;\nvar f = fn() { return a; };":                                   "a1",
		"var a = 1;\nvar f = fn() { a = 2; };":                                                  "a1",
		"var a = 1;\nvar f = fn() { return fn() { return a; }; };":                              "a1",
		"fn f(a,\nb,\nc) { return fn() { return b; }; }":                                        "b2",
		"var f = fn(a,\nb) { a; return fn() { return b; }; };":                                  "b2",
		"class A { m(a,\nb) { return fn() { return this.n(a); }; } n(b) { return b; } }":        "a1",
		"try {} catch (e) { print(e); }\ntry {} catch (e) { fn() { e; }; }":                     "e2",
		"var x = 1;\nif (true) { var f = fn() { return x; };\nvar x = 2; }":                     "x1",
		"var x = 1;\nif (true) { var x = 2;\nvar f = fn() { return x; }; }":                     "x2",
		"var x = 1; if (true) { var x = 2; }\nvar f = fn() { return x; };":                      "x1",
		"var a = 1; var f = fn() {}; print(a); var g = fn() { var b = 2; fn() {}; return b; };": "",
		"var x = 1;\nvar f = fn(x) { return x; };":                                              "",
		"var x = 1;\nvar f = fn() { var x = 3; return x; };":                                    "",
		"var x = 1;\nvar f = fn() { var x = x; return x; };":                                    "x1",
		"fn f() { return 1; }\nvar g = fn() { return f(); };":                                   "",
		"var f = nil;\nf = fn() { return f(); };":                                               "f1",
		"fn f() { return fn() { return a; }; }\nvar a = 1;":                                     "",
		"var a = 1;\nfn f() { return fn() { return a; }; }":                                     "",
		"var a = 1;\nvar a = 2;\nvar f = fn() { return a; };":                                   "a2",
	} {
		if got := sharedNames(t, text); got != want {
			t.Errorf("%q: %s, want %s", text, got, want)
		}
	}
	if got := Shared(nil); got != nil {
		t.Errorf("of nil: %v", got)
	}
}
