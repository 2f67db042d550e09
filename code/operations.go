package code

import (
	"rewind/api"
)

// SuperStep: Super's B is this many times the number of a class, and how many arguments there are.
const SuperStep = 64

// Packed: a List whose B is this makes no list of the program's but a pack, a box of its values: so a closure holds more than MaxList of them. Cap, LoadCap and StoreCap whose B is above 0 mean what lies at B - 1 in the pack at A.
const Packed = 1

// namesRight: is an instruction one of these, and is there what it names?
func namesRight(m *Image, f *Func, i Instr) bool {
	switch i.Op {
	case Push:
		return below(i.A, len(m.Consts))
	case Load, LoadBox, Store, Box, StoreBox:
		return below(i.A, f.Slots)
	case Cap, LoadCap, StoreCap, List:
		return fewValues(i.A)
	case Jump, Unless, IfTrue, IfFalse:
		return below(i.A, len(f.Code))
	case Get, SetGet:
		return text(m, i.A)
	case Send:
		return text(m, i.A) && fewValues(i.B)
	case Super:
		return text(m, i.A) && i.B >= 0 && below(i.B/SuperStep, len(m.Classes)) && fewValues(i.B%SuperStep)
	case New:
		return below(i.A, len(m.Classes)) && fewValues(i.B)
	case Call:
		return fewValues(i.B)
	case CallFn:
		return callable(m, i.A) && i.B == m.Funcs[i.A].Params && fewValues(i.B)
	case Closure:
		return callable(m, i.A) && fewValues(i.B)
	}
	return i.Op >= Stop && i.Op <= Caught
}

// text: is there such a constant, and is it a text?
func text(m *Image, number int) bool {
	return below(number, len(m.Consts)) && m.Consts[number].Text
}

// fewValues: may a list, or a call, have so many?
func fewValues(many int) bool {
	return many >= 0 && many <= api.MaxList
}

// stack is how many values an instruction, which names what is there, takes and leaves where it goes on behind itself.
func stack(i Instr) (takes, leaves int) {
	switch i.Op {
	case Push, Nil, True, False, Input, Load, LoadBox, Cap, LoadCap:
		return 0, 1
	case Store, Box, StoreBox, StoreCap, Pop, Return, Throw, Print, Unless, IfTrue, IfFalse:
		return 1, 0
	case Truth, Neg, Not, Len, Get:
		return 1, 1
	case Same, Less, Add, Sub, Mul, Div, Mod, Elem:
		return 2, 1
	case SetGet:
		return 2, 0
	case SetElem:
		return 3, 0
	case List:
		return i.A, 1
	case Send, Call:
		return i.B + 1, 1
	case Super:
		return i.B%SuperStep + 1, 1
	case New, CallFn, Closure:
		return i.B, 1
	}
	return 0, 0
}
