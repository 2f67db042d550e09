package syntax

import (
	"errors"
	"fmt"
	"strings"
	"testing"

	"rewind/api"
)

// kinds are the names of the kinds of nodes, by their numbers.
var kinds = strings.Fields("none Program Class Field Method Fn Params Block Var Set If While Return Throw Try Catch Print Do Int Str True False Nil This Name New Super List Lambda Input Len Or And Same Less Add Sub Mul Div Mod Neg Not Get Send Elem Call")

// sketch tells a node: Kind, @line, :text, <under, #number, and its kids in brackets.
func sketch(n *api.Node, lines bool) string {
	if n == nil {
		return "nil"
	}
	s := kinds[n.Kind]
	if lines {
		s += fmt.Sprint("@", n.Line)
	}
	if n.Text != "" {
		s += ":" + n.Text
	}
	if n.Under != "" {
		s += "<" + n.Under
	}
	if n.N != 0 {
		s += fmt.Sprint("#", n.N)
	}
	if len(n.Kids) == 0 {
		return s
	}
	var l []string
	for _, k := range n.Kids {
		l = append(l, sketch(k, lines))
	}
	return s + "[" + strings.Join(l, " ") + "]"
}

// noPlace: an error that is no At.
const noPlace = -1

// place is an error's place.
func place(err error) int {
	var at *api.At
	if errors.As(err, &at) {
		return at.Place
	}
	return noPlace
}

// fails: a text that is no program, the error, and its place.
type fails struct {
	text  string
	err   api.Errno
	place int
}

func checkFails(t *testing.T, l []fails) {
	t.Helper()
	for _, c := range l {
		n, err := Parse(c.text)
		if api.Tell(err) != c.err || place(err) != c.place {
			t.Errorf("%.200q: error %d at %d, want %d at %d", c.text, api.Tell(err), place(err), c.err, c.place)
		}
		if n != nil {
			t.Errorf("%.200q: a program beside an error", c.text)
		}
	}
}

// mustParse is a program that must be one.
func mustParse(t *testing.T, text string) *api.Node {
	t.Helper()
	n, err := Parse(text)
	if err != nil || n == nil {
		t.Fatalf("%.300q: error %d at %d", text, api.Tell(err), place(err))
	}
	return n
}

func checkParses(t *testing.T, l ...string) {
	t.Helper()
	for _, text := range l {
		if n, err := Parse(text); err != nil || n == nil {
			t.Errorf("%.200q: error %d at %d, want none", text, api.Tell(err), place(err))
		}
	}
}

// many is a text so many times, with another one between.
func many(n int, s, between string) string {
	return strings.TrimSuffix(strings.Repeat(s+between, n), between)
}
