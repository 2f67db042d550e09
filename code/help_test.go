package code

import (
	"encoding/binary"
	"errors"
	"math"
	"slices"
	"testing"

	"rewind/api"
)

// noPlace: an error that is no At.
const noPlace = -1

const (
	least    = math.MinInt
	greatest = math.MaxInt
)

// place is an error's place.
func place(err error) int {
	var at *api.At
	if errors.As(err, &at) {
		return at.Place
	}
	return noPlace
}

// code is a list of instructions that name nothing.
func code(l ...int) []Instr {
	var c []Instr
	for _, op := range l {
		c = append(c, Instr{Op: op})
	}
	return c
}

// times is an instruction so many times.
func times(many int, i Instr) []Instr {
	return slices.Repeat([]Instr{i}, many)
}

// around is an image with which nothing is wrong but perhaps the code of its function 0: there are 3 constants (texts from 1 on), 2 classes, 3 functions (1 has 2 parameters), and function 0 has 4 slots.
func around(c ...Instr) *Image {
	return &Image{
		Consts: []Const{{N: -5}, {Text: true, S: "a"}, {Text: true}},
		Classes: []Class{
			{Name: "Low", Above: 1, Fields: []string{"x", "y"}, Names: []string{"a"}, Methods: []int{2}},
			{Name: "High", Above: -1, Fields: []string{"x"}, Names: []string{"a", "init"}, Methods: []int{1, 2}},
		},
		Funcs: []Func{
			{Name: "main", Slots: 4, Code: c},
			{Name: "two", Params: 2, Slots: 2, Code: code(Nil, Return)},
			{Name: "none", Code: code(Nil, Return)},
		},
	}
}

// right is an image with which nothing is wrong.
func right() *Image {
	m := around(
		Instr{Stop, 1, 0}, Instr{Push, 0, 0}, Instr{Box, 1, 0},
		Instr{Stop, 2, 0}, Instr{LoadBox, 1, 0}, Instr{Op: Print},
		Instr{Nil, 0, 0}, Instr{Op: Return},
		Instr{Caught, 3, 0}, Instr{Store, 2, 0}, Instr{Jump, 6, 0},
	)
	m.Funcs[0].Handlers = []Handler{{0, 6, 8}}
	m.Funcs[0].Vars = []Var{{"v", 1, 3, 8, true}, {"e", 2, 10, 11, false}}
	return m
}

// wantCheck: what Check must say of an image.
func wantCheck(t *testing.T, what string, m *Image, err api.Errno, at int) {
	t.Helper()
	if got := Check(m); api.Tell(got) != err || place(got) != at {
		t.Errorf("%s: error %d at %d, want %d at %d", what, api.Tell(got), place(got), err, at)
	}
}

// wantDecode: what Decode must say of bytes; no image may stand beside an error.
func wantDecode(t *testing.T, what string, b []byte, err api.Errno, at int) {
	t.Helper()
	m, got := Decode(b)
	if api.Tell(got) != err || place(got) != at {
		t.Errorf("%s: error %d at %d, want %d at %d", what, api.Tell(got), place(got), err, at)
	}
	if (m == nil) != (err != api.OK) {
		t.Errorf("%s: error %d beside %v", what, api.Tell(got), m)
	}
}

// same: are two images alike? An empty list may be nil or not.
func same(a, b *Image) bool {
	if a == nil || b == nil {
		return a == b
	}
	return slices.Equal(a.Consts, b.Consts) && slices.EqualFunc(a.Classes, b.Classes, sameClass) && slices.EqualFunc(a.Funcs, b.Funcs, sameFunc)
}

func sameClass(a, b Class) bool {
	return a.Name == b.Name && a.Above == b.Above && slices.Equal(a.Fields, b.Fields) && slices.Equal(a.Names, b.Names) && slices.Equal(a.Methods, b.Methods)
}

func sameFunc(a, b Func) bool {
	return a.Name == b.Name && a.Params == b.Params && a.Slots == b.Slots && slices.Equal(a.Code, b.Code) && slices.Equal(a.Handlers, b.Handlers) && slices.Equal(a.Vars, b.Vars)
}

// sealed is bytes with their SUM behind them, by the document's words.
func sealed(b []byte) []byte {
	sum := 7
	for _, x := range b {
		sum = (sum*37 + int(x)) % 8191
	}
	return binary.AppendVarint(slices.Clone(b), int64(sum))
}

// open is an image's bytes ahead of the SUM.
func open(m *Image) []byte { return joined(parts(m)) }
