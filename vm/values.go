package vm

import (
	"strconv"

	"rewind/api"
	"rewind/code"
	"rewind/heap"
)

// The words that are thrown.
const (
	wordType  = "type"
	wordZero  = "zero"
	wordSize  = "size"
	wordIndex = "index"
	wordName  = "name"
	wordArity = "arity"
	wordDepth = "depth"
)

// thrown is what an instruction throws. It is handed on as errors are, but is the program's matter.
type thrown struct{ value heap.Value }

// Error is there since errors have one; nobody is told it.
func (t thrown) Error() string { return "thrown" }

// throws throws a word.
func throws(word string) error { return thrown{text(word)} }

func number(n int) heap.Value  { return heap.Value{Kind: heap.Int, N: n} }
func text(s string) heap.Value { return heap.Value{Kind: heap.Text, S: s} }

// truth is one of two values, so that they may be compared as they are.
func truth(is bool) heap.Value {
	v := heap.Value{Kind: heap.Bool}
	if is {
		v.N = 1
	}
	return v
}

func constant(c code.Const) heap.Value {
	if c.Text {
		return text(c.S)
	}
	return number(c.N)
}

// branch does what asks for a truth: it stays on the stack behind Truth, and where IfTrue or IfFalse go.
func (f *Frame) branch(i code.Instr) error {
	v := f.pop()
	if v.Kind != heap.Bool {
		return throws(wordType)
	}
	switch i.Op {
	case code.Truth:
		f.push(v)
	case code.Unless:
		if v == truth(false) {
			f.At = i.A
		}
	default:
		if v == truth(i.Op == code.IfTrue) {
			f.push(v)
			f.At = i.A
		}
	}
	return nil
}

func (m *Machine) one(f *Frame, op int) error {
	v := f.pop()
	switch {
	case op == code.Not && v.Kind == heap.Bool:
		f.push(truth(v == truth(false)))
	case op == code.Neg && v.Kind == heap.Int:
		f.push(number(-v.N))
	case op == code.Len && v.Kind == heap.Text:
		f.push(number(len(v.S)))
	case op == code.Len && m.is(v, heap.Array):
		f.push(number(m.heap.Size(v.N)))
	default:
		return throws(wordType)
	}
	return nil
}

func (m *Machine) two(f *Frame, op int) error {
	l := f.last(2)
	a, b := l[0], l[1]
	var v heap.Value
	var err error
	switch {
	case op == code.Same:
		v = truth(a == b)
	case a.Kind == heap.Int && b.Kind == heap.Int:
		v, err = numbers(op, a.N, b.N)
	case a.Kind == heap.Text && b.Kind == heap.Text:
		v, err = texts(op, a.S, b.S)
	case op == code.Add && m.is(a, heap.Array) && m.is(b, heap.Array):
		v, err = m.join(f)
	default:
		err = throws(wordType)
	}
	if err != nil {
		return err
	}
	f.take(2)
	f.push(v)
	return nil
}

func numbers(op, a, b int) (heap.Value, error) {
	if b == 0 && (op == code.Div || op == code.Mod) {
		return heap.Value{}, throws(wordZero)
	}
	switch op {
	case code.Less:
		return truth(a < b), nil
	case code.Add:
		return number(a + b), nil
	case code.Sub:
		return number(a - b), nil
	case code.Mul:
		return number(a * b), nil
	case code.Div:
		return number(a / b), nil
	}
	return number(a % b), nil
}

func texts(op int, a, b string) (heap.Value, error) {
	switch {
	case op == code.Less:
		return truth(a < b), nil
	case op != code.Add:
		return heap.Value{}, throws(wordType)
	case len(a)+len(b) > api.MaxString:
		return heap.Value{}, throws(wordSize)
	}
	return text(a + b), nil
}

// Show is what print tells of a value.
func (m *Machine) Show(v heap.Value) (_ string) {
	switch v.Kind {
	case heap.Nil:
		return "nil"
	case heap.Bool:
		return strconv.FormatBool(v.N != 0)
	case heap.Int:
		return strconv.Itoa(v.N)
	case heap.Text:
		return v.S
	case heap.Ref:
		return m.showObject(v.N)
	}
	return ""
}

// showObject is empty where there is nothing that a program could print.
func (m *Machine) showObject(at int) string {
	h := m.Heap()
	name := ""
	switch h.Kind(at) {
	case heap.Instance:
		// Others may have put something into the heap.
		if class := h.Tag(at); class >= 0 && class < len(m.image.Classes) {
			name = m.image.Classes[class].Name
		}
	case heap.Array:
		name = "list"
	case heap.Closure:
		name = "fn"
	default:
		return ""
	}
	return name + "#" + strconv.Itoa(h.Id(at))
}
