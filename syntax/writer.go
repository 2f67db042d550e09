package syntax

import (
	"strconv"
	"strings"

	"rewind/api"
)

const indent = "  "

// writer knows how many blocks and classes are around what it writes.
type writer struct {
	deep int
}

func (w writer) ahead() string { return strings.Repeat(indent, w.deep) }

func (w writer) lines(l []*api.Node) string {
	var b strings.Builder
	for _, n := range l {
		b.WriteString(w.ahead() + w.statement(n) + "\n")
	}
	return b.String()
}

// braces ends without a line feed: a Lambda's } may have more behind it.
func (w writer) braces(l []*api.Node) string {
	return "{\n" + writer{w.deep + 1}.lines(l) + w.ahead() + "}"
}

// statement leaves the blanks ahead and the line feed behind to lines, as else, catch and a Lambda's head need none of them.
func (w writer) statement(n *api.Node) string {
	switch n.Kind {
	case api.Class:
		return "class " + n.Text + under(n) + " " + w.braces(n.Kids)
	case api.Field:
		return "field " + n.Text + ";"
	case api.Method:
		return n.Text + w.function(n)
	case api.Fn:
		return "fn " + n.Text + w.function(n)
	case api.Var:
		return "var " + n.Text + " = " + w.value(n.Kids[0]) + ";"
	case api.Set:
		return w.first(n) + " = " + w.value(n.Kids[1]) + ";"
	case api.If:
		return w.choice(n)
	case api.While:
		return "while " + w.guarded(n)
	case api.Return:
		return w.returned(n)
	case api.Throw:
		return "throw " + w.value(n.Kids[0]) + ";"
	case api.Try:
		return "try " + w.braces(n.Kids[0].Kids) + "\n" + w.ahead() + w.statement(n.Kids[1])
	case api.Catch:
		return "catch (" + n.Text + ") " + w.braces(n.Kids[0].Kids)
	case api.Print:
		return "print(" + w.value(n.Kids[0]) + ");"
	}
	return w.first(n) + ";"
}

func under(n *api.Node) string {
	if n.Under == "" {
		return ""
	}
	return " < " + n.Under
}

func (w writer) function(n *api.Node) string {
	return "(" + w.values(n.Kids[0].Kids) + ") " + w.braces(n.Kids[1].Kids)
}

func (w writer) guarded(n *api.Node) string {
	return "(" + w.value(n.Kids[0]) + ") " + w.braces(n.Kids[1].Kids)
}

func (w writer) choice(n *api.Node) string {
	s := "if " + w.guarded(n)
	if len(n.Kids) > 2 {
		s += "\n" + w.ahead() + "else " + w.braces(n.Kids[2].Kids)
	}
	return s
}

func (w writer) returned(n *api.Node) string {
	if len(n.Kids) == 0 {
		return "return;"
	}
	return "return " + w.value(n.Kids[0]) + ";"
}

// first writes the first value of a Do or Set. Right in the program fn would begin a function there; nothing but a Lambda begins with fn and a parenthesis.
func (w writer) first(n *api.Node) string {
	s := w.value(n.Kids[0])
	if w.deep == 0 && strings.HasPrefix(s, "fn(") {
		return "(" + s + ")"
	}
	return s
}

func (w writer) value(n *api.Node) string { return w.atLeast(weakest, n) }

func (w writer) atLeast(least int, n *api.Node) string {
	if strength(n.Kind) < least {
		return "(" + w.bare(n) + ")"
	}
	return w.bare(n)
}

func (w writer) values(l []*api.Node) string {
	var parts []string
	for _, n := range l {
		parts = append(parts, w.value(n))
	}
	return strings.Join(parts, ", ")
}

func (w writer) arguments(l []*api.Node) string { return "(" + w.values(l) + ")" }

func (w writer) bare(n *api.Node) string {
	if s, ok := signOf(n.Kind); ok {
		return w.atLeast(s.strength, n.Kids[0]) + " " + s.mark + " " + w.atLeast(s.strength+1, n.Kids[1])
	}
	switch n.Kind {
	case api.Neg:
		return "-" + w.atLeast(ofPrefix, n.Kids[0])
	case api.Not:
		return "!" + w.atLeast(ofPrefix, n.Kids[0])
	case api.Get:
		return w.asked(n) + "." + n.Text
	case api.Send:
		return w.asked(n) + "." + n.Text + w.arguments(n.Kids[1:])
	case api.Elem:
		return w.asked(n) + "[" + w.value(n.Kids[1]) + "]"
	case api.Call:
		return w.called(n) + w.arguments(n.Kids[1:])
	}
	return w.simple(n)
}

func (w writer) asked(n *api.Node) string { return w.atLeast(ofSuffix, n.Kids[0]) }

// called writes what a Call calls: a Get without parentheses would make it a Send.
func (w writer) called(n *api.Node) string {
	if n.Kids[0].Kind == api.Get {
		return "(" + w.bare(n.Kids[0]) + ")"
	}
	return w.asked(n)
}

func (w writer) simple(n *api.Node) string {
	switch n.Kind {
	case api.Int:
		return strconv.FormatUint(uint64(n.N), 10) // -2^63 is written as 2^63, as it was read
	case api.Str:
		return quoted(n.Text)
	case api.True:
		return "true"
	case api.False:
		return "false"
	case api.Nil:
		return "nil"
	case api.This:
		return "this"
	case api.New:
		return "new " + n.Text + w.arguments(n.Kids)
	case api.Super:
		return "super." + n.Text + w.arguments(n.Kids)
	case api.List:
		return "[" + w.values(n.Kids) + "]"
	case api.Lambda:
		return "fn" + w.function(n)
	case api.Input:
		return "input()"
	case api.Len:
		return "len(" + w.value(n.Kids[0]) + ")"
	}
	return n.Text
}

// quoted goes byte by byte, as strings need not be of runes.
func quoted(s string) string {
	b := []byte{'"'}
	for i := range len(s) {
		switch c := s[i]; c {
		case '\n':
			b = append(b, '\\', 'n')
		case '"', '\\':
			b = append(b, '\\', c)
		default:
			b = append(b, c)
		}
	}
	return string(append(b, '"'))
}
