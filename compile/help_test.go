package compile

import (
	"errors"
	"fmt"
	"slices"
	"strings"
	"testing"

	"rewind/api"
	"rewind/code"
	"rewind/syntax"
)

// noLine: an error that is no At.
const noLine = -1

// line is an error's place.
func line(err error) int {
	var at *api.At
	if errors.As(err, &at) {
		return at.Place
	}
	return noLine
}

// mustParse is a program that must be one.
func mustParse(t *testing.T, text string) *api.Node {
	t.Helper()
	n, err := syntax.Parse(text)
	if err != nil {
		t.Fatalf("%q: no program: error %d at %d", text, api.Tell(err), line(err))
	}
	return n
}

// mustCompile is the image of a program with which nothing must be wrong, nor with the image.
func mustCompile(t *testing.T, text string) *code.Image {
	t.Helper()
	m, err := Compile(mustParse(t, text))
	if err != nil || m == nil {
		t.Fatalf("%.300q: error %d at %d", text, api.Tell(err), line(err))
	}
	wantRuns(t, text, m)
	return m
}

// wantRuns: 3.2: nothing may be wrong with a program's image.
func wantRuns(t *testing.T, text string, m *code.Image) {
	t.Helper()
	if err := code.Check(m); err != nil {
		t.Fatalf("%.300q: its image may not be run: error %d at %d", text, api.Tell(err), line(err))
	}
}

// told are events as a text: S and a line, O: and a text, T, a line, : and a text, C and a line, D, or X: and a text.
func told(l []api.Event) string {
	var out []string
	for _, e := range l {
		switch e.Kind {
		case api.Stop:
			out = append(out, fmt.Sprint("S", e.Line))
		case api.Out:
			out = append(out, "O:"+e.Text)
		case api.Thrown:
			out = append(out, fmt.Sprint("T", e.Line, ":", e.Text))
		case api.Caught:
			out = append(out, fmt.Sprint("C", e.Line))
		case api.Done:
			out = append(out, "D")
		case api.Dead:
			out = append(out, "X:"+e.Text)
		default:
			out = append(out, fmt.Sprintf("?%+v", e))
		}
	}
	return strings.Join(out, " ")
}

// does: a program, the inputs, and the events that the document asks.
type does struct {
	text   string
	inputs []int
	want   string
}

// checkDoes holds what a program's image does against what is asked, and against what the program itself does.
func checkDoes(t *testing.T, l []does) {
	t.Helper()
	for _, c := range l {
		n := mustParse(t, c.text)
		if got := told(walk(n, c.inputs)); got != c.want {
			t.Errorf("%.300q: the program does\n%s, want\n%s", c.text, got, c.want)
		}
		if got := told(run(t, mustCompile(t, c.text), c.inputs)); got != c.want {
			t.Errorf("%.300q: its image does\n%s, want\n%s", c.text, got, c.want)
		}
	}
}

// outs are what is printed.
func outs(l []api.Event) string {
	var out []string
	for _, e := range l {
		if e.Kind == api.Out {
			out = append(out, e.Text)
		}
	}
	return strings.Join(out, " ")
}

// prints: a program, and what it prints, in a row; it comes to its end.
type prints struct{ text, want string }

func checkPrints(t *testing.T, l []prints) {
	t.Helper()
	for _, c := range l {
		n := mustParse(t, c.text)
		for who, got := range map[string][]api.Event{"the program": walk(n, nil), "its image": run(t, mustCompile(t, c.text), nil)} {
			if outs(got) != c.want || got[len(got)-1].Kind != api.Done {
				t.Errorf("%.300q: %s does %s, want prints of %s", c.text, who, told(got), c.want)
			}
		}
	}
}

// fails: a program with which something is wrong, and at which line.
type fails struct {
	text string
	err  api.Errno
	line int
}

func checkFails(t *testing.T, l []fails) {
	t.Helper()
	for _, c := range l {
		m, err := Compile(mustParse(t, c.text))
		if api.Tell(err) != c.err || line(err) != c.line {
			t.Errorf("%.300q: error %d at %d, want %d at %d", c.text, api.Tell(err), line(err), c.err, c.line)
		}
		if m != nil {
			t.Errorf("%.300q: an image beside an error", c.text)
		}
	}
}

// names are those of an image's functions, sorted but for the first one.
func names(m *code.Image) string {
	var l []string
	for _, f := range m.Funcs {
		l = append(l, f.Name)
	}
	slices.Sort(l[1:])
	return strings.Join(l, " ")
}

// same: are two images alike? An empty list may be nil or not.
func same(a, b *code.Image) bool {
	if a == nil || b == nil {
		return a == b
	}
	return slices.Equal(a.Consts, b.Consts) &&
		slices.EqualFunc(a.Classes, b.Classes, func(a, b code.Class) bool {
			return a.Name == b.Name && a.Above == b.Above && slices.Equal(a.Fields, b.Fields) && slices.Equal(a.Names, b.Names) && slices.Equal(a.Methods, b.Methods)
		}) &&
		slices.EqualFunc(a.Funcs, b.Funcs, func(a, b code.Func) bool {
			return a.Name == b.Name && a.Params == b.Params && a.Slots == b.Slots && slices.Equal(a.Code, b.Code) && slices.Equal(a.Handlers, b.Handlers) && slices.Equal(a.Vars, b.Vars)
		})
}
