package code

import (
	"rewind/api"
)

// How much an image, and a function of it, may have.
const (
	maxFuncs   = 250
	maxConsts  = 1000
	maxClasses = 250
	maxCode    = 5000
	maxSlots   = 200
)

// none is what a class is under that is under no other one.
const none = -1

// Check says whether an image may be run: all that is named is there, and at each instruction there are as many values, whichever way one came there: none at the beginning, one at a handler's. An error of a function is an At at its number.
func Check(m *Image) (_ error) {
	if m == nil {
		return api.ErrMissing
	}
	if len(m.Funcs) == 0 || len(m.Funcs) > maxFuncs || len(m.Consts) > maxConsts || len(m.Classes) > maxClasses {
		return api.ErrLimit
	}
	for number := range m.Classes {
		if !rightClass(m, number) {
			return api.ErrRange
		}
	}
	for number := range m.Funcs {
		if err := checkFunc(m, &m.Funcs[number]); err != api.OK {
			return &api.At{Err: err, Place: number}
		}
	}
	return nil
}

// rightClass: does a class have an end above it, and a function for each name?
func rightClass(m *Image, number int) bool {
	c := &m.Classes[number]
	if len(c.Names) != len(c.Methods) {
		return false
	}
	for _, f := range c.Methods {
		if !callable(m, f) {
			return false
		}
	}
	return endsAbove(m, number)
}

// endsAbove: does one come to a class that is under none, from a class on upwards?
func endsAbove(m *Image, number int) bool {
	// A way up that is longer than there are classes goes round.
	for range m.Classes {
		number = m.Classes[number].Above
		if number == none {
			return true
		}
		if !below(number, len(m.Classes)) {
			return false
		}
	}
	return false
}

func checkFunc(m *Image, f *Func) api.Errno {
	if !rightSize(f) {
		return api.ErrLimit
	}
	if !rightNames(m, f) {
		return api.ErrRange
	}
	if !rightWays(f) {
		return api.ErrForm
	}
	return api.OK
}

func rightSize(f *Func) bool {
	return len(f.Code) >= 1 && len(f.Code) <= maxCode &&
		f.Params >= 0 && f.Params <= api.MaxParts &&
		f.Slots >= f.Params && f.Slots <= maxSlots
}

// rightNames: is all there that a function's instructions, handlers and variables name?
func rightNames(m *Image, f *Func) bool {
	for _, i := range f.Code {
		if !namesRight(m, f, i) {
			return false
		}
	}
	for _, h := range f.Handlers {
		if !rightSpan(f, h.From, h.To) || !below(h.Target, len(f.Code)) {
			return false
		}
	}
	for _, v := range f.Vars {
		if !below(v.Slot, f.Slots) || !rightSpan(f, v.From, v.To) {
			return false
		}
	}
	return true
}

// rightSpan: may a part of a function's code go from one place to another, its end perhaps?
func rightSpan(f *Func, from, to int) bool {
	return 0 <= from && from <= to && to <= len(f.Code)
}

// below: is a number that of one of so many things?
func below(number, many int) bool {
	return number >= 0 && number < many
}

// callable: is there such a function, and is it not the program's own, which nobody calls?
func callable(m *Image, number int) bool {
	return number != 0 && below(number, len(m.Funcs))
}
