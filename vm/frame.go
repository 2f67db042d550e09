package vm

import (
	"slices"

	"rewind/code"
	"rewind/heap"
)

// nowhere is the next instruction of a function that goes on no more.
const nowhere = -1

// newFrame is a function that begins; all its slots are nil.
func newFrame(m *code.Image, number int) *Frame {
	return &Frame{Func: number, Slots: make([]heap.Value, m.Funcs[number].Slots)}
}

func (f *Frame) copied() *Frame {
	c := *f
	c.Slots, c.Stack = slices.Clone(f.Slots), slices.Clone(f.Stack)
	return &c
}

func (f *Frame) push(v heap.Value) { f.Stack = append(f.Stack, v) }

func (f *Frame) pop() heap.Value { return f.take(1)[0] }

// last are the last values on the stack, which stay there: a collection finds them.
func (f *Frame) last(many int) []heap.Value { return f.Stack[len(f.Stack)-many:] }

// take are the last values on the stack, which go: they are there until the next push.
func (f *Frame) take(many int) []heap.Value {
	l := f.last(many)
	f.Stack = f.Stack[:len(f.Stack)-many]
	return l
}

// copyImage is an image that shares nothing with another one, and is alike.
func copyImage(m *code.Image) *code.Image {
	c := &code.Image{Funcs: slices.Clone(m.Funcs), Consts: slices.Clone(m.Consts), Classes: slices.Clone(m.Classes)}
	for i := range c.Funcs {
		f := &c.Funcs[i]
		f.Code, f.Handlers, f.Vars = slices.Clone(f.Code), slices.Clone(f.Handlers), slices.Clone(f.Vars)
	}
	for i := range c.Classes {
		k := &c.Classes[i]
		k.Fields, k.Names, k.Methods = slices.Clone(k.Fields), slices.Clone(k.Names), slices.Clone(k.Methods)
	}
	return c
}
