package code

import (
	"fmt"
	"testing"

	"rewind/api"
)

// what A or B of an instruction may name.
type named int

const (
	anything named = iota
	aConstant
	aText
	aSlot
	aFew // from 0 to MaxList
	anInstruction
	aClass
	aFunction
	aSuper // of Super: a class, and how many values
)

// values are numbers of what is there, and of what is not, in an image of around that has 3 instructions.
func (n named) values() (there, not []int) {
	switch n {
	case aConstant:
		return []int{0, 1, 2}, []int{-1, 3, least, greatest}
	case aText:
		return []int{1, 2}, []int{0, -1, 3, least, greatest}
	case aSlot:
		return []int{0, 3}, []int{-1, 4, least, greatest}
	case aFew:
		return []int{0, 1, 50}, []int{-1, 51, least, greatest}
	case anInstruction:
		return []int{0, 2}, []int{-1, 3, least, greatest}
	case aClass:
		return []int{0, 1}, []int{-1, 2, least, greatest}
	case aFunction:
		return []int{1, 2}, []int{0, -1, 3, least, greatest}
	case aSuper:
		return []int{0, 50, 64, 64 + 50}, []int{-1, -63, -64, -128, 51, 63, 64 + 51, 127, 128, 128 + 50, least, greatest}
	}
	return []int{0, 1, -1, least, greatest}, nil
}

// row is one of the table of 3.1.
type row struct {
	ops           []int
	a, b          named
	takes, leaves int
	more          func(i Instr) int // it takes beside takes
}

func byA(i Instr) int         { return i.A }
func byB(i Instr) int         { return i.B }
func bySuper(i Instr) int     { return i.B % 64 }
func nothing(i Instr) int     { return 0 }
func (r row) all(i Instr) int { return r.takes + r.more(i) }

// table is that of 3.1, but CallFn, whose B hangs on A.
func table() []row {
	return []row{
		{[]int{Stop, Caught}, anything, anything, 0, 0, nothing},
		{[]int{Push}, aConstant, anything, 0, 1, nothing},
		{[]int{Nil, True, False, Input}, anything, anything, 0, 1, nothing},
		{[]int{Load, LoadBox}, aSlot, anything, 0, 1, nothing},
		{[]int{Store, Box, StoreBox}, aSlot, anything, 1, 0, nothing},
		{[]int{Cap, LoadCap}, aFew, anything, 0, 1, nothing},
		{[]int{StoreCap}, aFew, anything, 1, 0, nothing},
		{[]int{Pop, Return, Throw, Print}, anything, anything, 1, 0, nothing},
		{[]int{Jump}, anInstruction, anything, 0, 0, nothing},
		{[]int{Unless, IfTrue, IfFalse}, anInstruction, anything, 1, 0, nothing},
		{[]int{Truth, Neg, Not, Len}, anything, anything, 1, 1, nothing},
		{[]int{Same, Less, Add, Sub, Mul, Div, Mod, Elem}, anything, anything, 2, 1, nothing},
		{[]int{SetElem}, anything, anything, 3, 0, nothing},
		{[]int{List}, aFew, anything, 0, 1, byA},
		{[]int{Get}, aText, anything, 1, 1, nothing},
		{[]int{SetGet}, aText, anything, 2, 0, nothing},
		{[]int{Send}, aText, aFew, 1, 1, byB},
		{[]int{Super}, aText, aSuper, 1, 1, bySuper},
		{[]int{New}, aClass, aFew, 0, 1, byB},
		{[]int{Call}, anything, aFew, 1, 1, byB},
		{[]int{Closure}, aFunction, aFew, 0, 1, byB},
	}
}

// 3.1: the operations' numbers, by which bytes tell them.
func TestNumbers(t *testing.T) {
	l := []int{Stop, Push, Nil, True, False, Load, Store, Box, LoadBox, StoreBox, Cap, LoadCap, StoreCap, Pop, Jump, Unless, IfTrue, IfFalse, Truth, Neg, Not, Same, Less, Add, Sub, Mul, Div, Mod, List, Elem, SetElem, Get, SetGet, Send, Super, New, Call, CallFn, Closure, Return, Throw, Print, Input, Len, Caught}
	for i, op := range l {
		if op != i+1 {
			t.Errorf("operation %d of the document is %d", i+1, op)
		}
	}
	told := 1 // CallFn
	for _, r := range table() {
		told += len(r.ops)
	}
	if len(l) != 45 || told != 45 {
		t.Errorf("%d operations, %d in the table", len(l), told)
	}
}

// apart has an instruction where nobody comes: what it takes is not asked there.
func apart(i Instr) *Image {
	return around(Instr{Op: Nil}, Instr{Op: Return}, i)
}

// 3.1, 3.2: what an instruction names must be there, and what names nothing is any number.
func TestNames(t *testing.T) {
	for _, r := range table() {
		for _, op := range r.ops {
			checkNames(t, op, r)
		}
	}
}

func checkNames(t *testing.T, op int, r row) {
	t.Helper()
	a, notA := r.a.values()
	b, notB := r.b.values()
	for _, x := range a {
		for _, y := range b {
			i := Instr{op, x, y}
			wantCheck(t, fmt.Sprint(i), apart(i), api.OK, noPlace)
		}
		for _, y := range notB {
			i := Instr{op, x, y}
			wantCheck(t, fmt.Sprint(i), apart(i), api.ErrRange, 0)
		}
	}
	for _, x := range notA {
		i := Instr{op, x, b[0]}
		wantCheck(t, fmt.Sprint(i), apart(i), api.ErrRange, 0)
	}
}

// 3.1, 3.2: CallFn's B is how many parameters its function has.
func TestCallFn(t *testing.T) {
	for _, i := range []Instr{{CallFn, 1, 2}, {CallFn, 2, 0}} {
		wantCheck(t, fmt.Sprint(i), apart(i), api.OK, noPlace)
	}
	for _, i := range []Instr{{CallFn, 0, 0}, {CallFn, -1, 0}, {CallFn, 3, 0}, {CallFn, least, 0}, {CallFn, greatest, 0}, {CallFn, 1, 1}, {CallFn, 1, 3}, {CallFn, 1, -2}, {CallFn, 2, 1}, {CallFn, 2, -1}, {CallFn, 2, greatest}} {
		wantCheck(t, fmt.Sprint(i), apart(i), api.ErrRange, 0)
	}
	// However many a function says it takes, it is called with MaxList at most; what is wrong with it is told behind.
	for _, c := range []struct {
		params int
		err    api.Errno
		at     int
	}{{8, api.OK, noPlace}, {9, api.ErrLimit, 2}, {50, api.ErrLimit, 2}, {51, api.ErrRange, 0}, {-1, api.ErrRange, 0}, {greatest, api.ErrRange, 0}} {
		m := apart(Instr{CallFn, 2, c.params})
		m.Funcs[2].Params, m.Funcs[2].Slots = c.params, 200
		wantCheck(t, fmt.Sprint(c.params, " parameters"), m, c.err, c.at)
	}
	for values := range 4 {
		c := append(times(values, Instr{Op: Nil}), Instr{CallFn, 1, 2}, Instr{Op: Return})
		err, at := api.OK, noPlace
		if values < 2 {
			err, at = api.ErrForm, 0
		}
		wantCheck(t, fmt.Sprint(values, " values"), around(c...), err, at)
	}
}

// 3.2: an instruction is one of these.
func TestNoOperation(t *testing.T) {
	for _, op := range []int{0, -1, 46, 47, 64 + Nil, 128 + Nil, 256 + Nil, least, greatest} {
		wantCheck(t, fmt.Sprint("operation ", op), apart(Instr{Op: op}), api.ErrRange, 0)
	}
}

// 3.1, 3.2: what an instruction takes must be there, and it leaves so many values, no more and no fewer.
func TestTakesAndLeaves(t *testing.T) {
	goesAway := map[int]bool{Jump: true, Unless: true, IfTrue: true, IfFalse: true, Return: true, Throw: true}
	for _, r := range table() {
		as, _ := r.a.values()
		bs, _ := r.b.values()
		for _, op := range r.ops {
			if goesAway[op] {
				continue
			}
			for _, a := range as {
				for _, b := range bs {
					i := Instr{op, a, b}
					checkStack(t, i, r.all(i), r.leaves)
				}
			}
		}
	}
	checkStack(t, Instr{CallFn, 1, 2}, 2, 1)
	checkStack(t, Instr{CallFn, 2, 0}, 0, 1)
}

// checkStack has so many values ahead of an instruction, and takes so many behind it.
func checkStack(t *testing.T, i Instr, takes, leaves int) {
	t.Helper()
	between := func(ahead, behind int) *Image {
		c := append(times(ahead, Instr{Op: Nil}), i)
		c = append(c, times(behind, Instr{Op: Pop})...)
		return around(append(c, code(Nil, Return)...)...)
	}
	wantCheck(t, fmt.Sprint(i, " with what it takes"), between(takes, leaves), api.OK, noPlace)
	wantCheck(t, fmt.Sprint(i, " with more than it takes"), between(takes+1, leaves+1), api.OK, noPlace)
	wantCheck(t, fmt.Sprint(i, " leaves less"), between(takes, leaves+1), api.ErrForm, 0)
	if takes > 0 {
		wantCheck(t, fmt.Sprint(i, " with less than it takes"), between(takes-1, 0), api.ErrForm, 0)
	}
}

// 3.1: Jump, Unless, IfTrue, IfFalse: how many values there are at A, and behind them.
func TestJumps(t *testing.T) {
	for _, c := range []struct {
		op                int
		takes, at, behind int // values it takes, leaves at A, leaves behind itself
		goesOn            bool
	}{{Jump, 0, 0, 0, false}, {Unless, 1, 0, 0, true}, {IfTrue, 1, 1, 0, true}, {IfFalse, 1, 1, 0, true}} {
		for ahead := range 4 {
			for there := range 4 {
				for next := range 4 {
					m := jumpImage(c.op, ahead, there, next)
					at, behind := ahead-c.takes+c.at, ahead-c.takes+c.behind
					ok := ahead >= c.takes && there <= at && (!c.goesOn || next <= behind)
					err, place := api.OK, noPlace
					if !ok {
						err, place = api.ErrForm, 0
					}
					wantCheck(t, fmt.Sprint(c.op, " with ", ahead, ", there ", there, ", next ", next), m, err, place)
				}
			}
		}
	}
}

// jumpImage has values ahead of a jump; behind it some are taken, at A some.
func jumpImage(op, ahead, there, next int) *Image {
	end := code(Nil, Return)
	c := append(times(ahead, Instr{Op: Nil}), Instr{Op: op, A: ahead + 1 + next + len(end)})
	c = append(append(c, times(next, Instr{Op: Pop})...), end...)
	c = append(append(c, times(there, Instr{Op: Pop})...), end...)
	return around(c...)
}
