package syntax

import (
	"rewind/api"
)

// How strong values are: the reader goes from the weakest on, the writer tells by it where parentheses must stand.
const (
	weakest   = 1
	strongest = 6 // of values of two parts
	ofPrefix  = 7
	ofSuffix  = 8 // and of all that has no sign
)

// sign stands between two values.
type sign struct {
	mark     string
	kind     int
	strength int
}

var signs = [9]sign{
	{"||", api.Or, weakest},
	{"&&", api.And, 2},
	{"==", api.Same, 3},
	{"<", api.Less, 4},
	{"+", api.Add, 5},
	{"-", api.Sub, 5},
	{"*", api.Mul, strongest},
	{"/", api.Div, strongest},
	{"%", api.Mod, strongest},
}

// signOf is the sign of a node of two parts.
func signOf(kind int) (sign, bool) {
	for _, s := range signs {
		if s.kind == kind {
			return s, true
		}
	}
	return sign{}, false
}

// strength is how strong a value is of itself.
func strength(kind int) int {
	if s, ok := signOf(kind); ok {
		return s.strength
	}
	if kind == api.Neg || kind == api.Not {
		return ofPrefix
	}
	return ofSuffix
}
