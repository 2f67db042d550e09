package check

import (
	"errors"
	"fmt"
	"strings"
	"testing"

	"rewind/api"
	"rewind/syntax"
)

// noLine: an error that is no At.
const noLine = -1

// line is an error's place.
func line(err error) int {
	var at *api.At
	if errors.As(err, &at) {
		return at.Place
	}
	return noLine
}

// lines are a program's, one behind the other.
func lines(l ...string) string {
	return strings.Join(l, "\n")
}

// mustParse is a program that must be one.
func mustParse(t *testing.T, text string) *api.Node {
	t.Helper()
	n, err := syntax.Parse(text)
	if err != nil {
		t.Fatalf("%q: no program: error %d at %d", text, api.Tell(err), line(err))
	}
	return n
}

// mustCheck is the table of a program with which nothing must be wrong.
func mustCheck(t *testing.T, text string) *Table {
	t.Helper()
	table, err := Check(mustParse(t, text))
	if err != nil || table == nil {
		t.Fatalf("%q: error %d at %d", text, api.Tell(err), line(err))
	}
	return table
}

// fails: a program with which something is wrong, and at which line.
type fails struct {
	text string
	err  api.Errno
	line int
}

func checkFails(t *testing.T, l []fails) {
	t.Helper()
	for _, c := range l {
		table, err := Check(mustParse(t, c.text))
		if api.Tell(err) != c.err || line(err) != c.line {
			t.Errorf("%q: error %d at %d, want %d at %d", c.text, api.Tell(err), line(err), c.err, c.line)
		}
		if table != nil {
			t.Errorf("%q: a table beside an error", c.text)
		}
	}
}

func checkRight(t *testing.T, l []string) {
	t.Helper()
	for _, text := range l {
		table, err := Check(mustParse(t, text))
		if err != nil || table == nil {
			t.Errorf("%q: error %d at %d, want none", text, api.Tell(err), line(err))
		}
	}
}

// told is a table as a text: of each class NAME<above[fields](methods), then the functions.
func told(table *Table) string {
	if table == nil {
		return "nil"
	}
	var l []string
	for _, c := range table.Classes {
		var methods []string
		for _, m := range c.Methods {
			methods = append(methods, m.Text)
		}
		l = append(l, fmt.Sprintf("%s<%d%v(%s)", c.Name, c.Above, c.Fields, strings.Join(methods, " ")))
	}
	for _, f := range table.Fns {
		l = append(l, "fn "+f.Text)
	}
	return strings.Join(l, "; ")
}
