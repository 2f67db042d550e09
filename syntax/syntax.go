// Package syntax: programs, read and written.
package syntax

import (
	"rewind/api"
)

// Name says whether a text may be a name: 1 to 16 letters of a to z and A to Z, digits and _, no digit first, no word of the language.
func Name(s string) (_ bool) {
	if s == "" || len(s) > maxName || isDigit(s[0]) || isWord(s) {
		return false
	}
	for i := range len(s) {
		if !isNameByte(s[i]) {
			return false
		}
	}
	return true
}

// Parse reads a program. Errors are an At at a byte.
func Parse(text string) (n *api.Node, err error) {
	if len(text) > api.MaxSource {
		return nil, api.ErrLimit
	}
	defer func() {
		if thrown := recover(); thrown != nil {
			n, err = nil, caught(thrown)
		}
	}()
	n = newReader(text).program()
	if Many(n) > api.MaxNodes {
		return nil, api.ErrLimit
	}
	return n, nil
}

// Many is how many nodes there are.
func Many(n *api.Node) (_ int) {
	if n == nil {
		return 0
	}
	many := 1
	for _, kid := range n.Kids {
		many += Many(kid)
	}
	return many
}

// Text writes a program.
func Text(n *api.Node) (_ string) {
	if n == nil || n.Kind != api.Program {
		return ""
	}
	return writer{}.lines(n.Kids)
}
