package code

import (
	"fmt"
	"testing"

	"rewind/api"
)

// wantWays: what Check must say of a function's code and handlers.
func wantWays(t *testing.T, what string, err api.Errno, c []Instr, l ...Handler) {
	t.Helper()
	m := around(code(Nil, Return)...)
	m.Funcs[1] = Func{Slots: 1, Code: c, Handlers: l}
	at := 1
	if err == api.OK {
		at = noPlace
	}
	wantCheck(t, what, m, err, at)
}

// 3.2: there must be an instruction where one goes on; behind Jump, Return and Throw one does not.
func TestEnds(t *testing.T) {
	for _, last := range []Instr{{Op: Return}, {Op: Throw}} {
		wantWays(t, fmt.Sprint("ends with ", last), api.OK, []Instr{{Op: Nil}, last})
		wantWays(t, fmt.Sprint(last, " takes a value"), api.ErrForm, []Instr{last})
		wantWays(t, fmt.Sprint(last, " with more values"), api.OK, []Instr{{Op: Nil}, {Op: Nil}, last})
		wantWays(t, fmt.Sprint("behind ", last), api.OK, []Instr{{Op: Nil}, last, {Op: Pop}})
	}
	wantWays(t, "ends with Jump", api.OK, []Instr{{Op: Stop}, {Op: Jump}})
	wantWays(t, "behind Jump", api.OK, []Instr{{Op: Jump}, {Op: Pop}})
	for _, last := range []Instr{{Op: Stop}, {Op: Caught}, {Op: Nil}, {Op: Unless}, {Op: IfTrue}, {Op: IfFalse}, {Op: Pop}, {Op: Print}, {Op: Len}, {Op: Call}} {
		wantWays(t, fmt.Sprint("ends with ", last), api.ErrForm, []Instr{{Op: Jump, A: 1}, {Op: Nil}, last})
	}
	wantWays(t, "nobody comes to the end", api.OK, []Instr{{Op: Nil}, {Op: Return}, {Op: Nil}})
	wantWays(t, "only a handler comes to the end", api.ErrForm, []Instr{{Op: Nil}, {Op: Return}, {Op: Nil}}, Handler{0, 0, 2})
}

// 3.2: whichever way one comes to an instruction, there are as many values.
func TestUnlikeWays(t *testing.T) {
	// One way pushes a value more than the other, and both come to one instruction.
	meet := func(op int, here, there int) []Instr {
		c := []Instr{{Op: True}, {Op: op, A: 3 + here}}
		c = append(c, times(here, Instr{Op: Nil})...)
		c = append(c, Instr{Op: Jump, A: 3 + here + there})
		c = append(c, times(there, Instr{Op: Nil})...)
		return append(c, code(Nil, Return)...)
	}
	for _, op := range []int{Unless, IfTrue, IfFalse} {
		for here := range 4 {
			for there := range 4 {
				at := there
				if op != Unless {
					at++
				}
				err := api.OK
				if here != at {
					err = api.ErrForm
				}
				wantWays(t, fmt.Sprint(op, ": ", here, " values and ", there), err, meet(op, here, there))
			}
		}
	}
	wantWays(t, "round, as many", api.OK, []Instr{{Op: Nil}, {Op: Pop}, {Op: Jump}})
	wantWays(t, "round, one more each time", api.ErrForm, []Instr{{Op: Nil}, {Op: Jump}})
	wantWays(t, "round, one fewer each time", api.ErrForm, []Instr{{Op: Nil}, {Op: Nil}, {Op: Pop}, {Op: Jump, A: 2}})
	wantWays(t, "back to the beginning with a value", api.ErrForm, []Instr{{Op: Nil}, {Op: Stop}, {Op: Jump}})
	wantWays(t, "a jump to itself", api.OK, []Instr{{Op: Nil}, {Op: Jump, A: 1}})
}

// 3.2: one comes to each Target with one value, whatever its handler spans.
func TestTargets(t *testing.T) {
	c := []Instr{{Op: Nil}, {Op: Return}, {Op: Pop}, {Op: Jump}}
	wantWays(t, "with one value", api.OK, c, Handler{0, 2, 2})
	wantWays(t, "twice", api.OK, c, Handler{0, 2, 2}, Handler{1, 2, 2})
	wantWays(t, "with none", api.ErrForm, c, Handler{0, 2, 3})
	wantWays(t, "the second one with none", api.ErrForm, c, Handler{0, 2, 2}, Handler{0, 2, 3})
	wantWays(t, "the first instruction", api.ErrForm, c, Handler{0, 2, 0})
	wantWays(t, "an instruction where there is one", api.OK, c, Handler{0, 2, 1})
	for _, from := range []int{0, 2, 4} {
		wantWays(t, "a handler of nothing", api.ErrForm, c, Handler{from, from, 3})
	}
	two := []Instr{{Op: Nil}, {Op: Nil}, {Op: Add}, {Op: Return}}
	wantWays(t, "an instruction where there are two", api.ErrForm, two, Handler{0, 4, 2})
	wantWays(t, "an instruction where there is one", api.OK, two, Handler{0, 4, 1})
	wantWays(t, "from a Target to another one", api.OK, []Instr{{Op: Nil}, {Op: Return}, {Op: Stop}, {Op: Throw}}, Handler{0, 1, 2}, Handler{2, 4, 3})
	wantWays(t, "from a Target to another one with a value more", api.ErrForm, []Instr{{Op: Nil}, {Op: Return}, {Op: Nil}, {Op: Throw}}, Handler{0, 1, 2}, Handler{2, 4, 3})
	wantWays(t, "more than there are from a Target on", api.ErrForm, []Instr{{Op: Nil}, {Op: Return}, {Op: Add}, {Op: Throw}}, Handler{0, 1, 2})
}

// 3.2: there are 200 values at most.
func TestMostValues(t *testing.T) {
	for _, push := range []Instr{{Op: Nil}, {Op: Load}, {Op: List}, {Op: Cap}, {Op: New}, {Op: Closure, A: 2}, {Op: CallFn, A: 2}} {
		wantWays(t, fmt.Sprint("200 of ", push), api.OK, append(times(200, push), Instr{Op: Return}))
		wantWays(t, fmt.Sprint("201 of ", push), api.ErrForm, append(times(201, push), Instr{Op: Return}))
		wantWays(t, fmt.Sprint("201 of ", push, " and on"), api.ErrForm, append(times(201, push), code(Pop, Return)...))
		c := append(code(Nil, Return), times(199, push)...)
		wantWays(t, fmt.Sprint("199 of ", push, " from a Target on"), api.OK, append(c, Instr{Op: Return}), Handler{0, 0, 2})
		c = append(c, push)
		wantWays(t, fmt.Sprint("200 of ", push, " from a Target on"), api.ErrForm, append(c, Instr{Op: Return}), Handler{0, 0, 2})
	}
	full := times(200, Instr{Op: Nil})
	wantWays(t, "200 values that are taken and left", api.OK, append(full[:200:200], Instr{Op: Add}, Instr{Op: Nil}, Instr{Op: List, A: 50}, Instr{Op: Not}, Instr{Op: Return}))
	wantWays(t, "200 values and IfTrue", api.OK, append(full[:200:200], Instr{Op: IfTrue, A: 202}, Instr{Op: Nil}, Instr{Op: Throw}))
	wantWays(t, "nobody comes to them", api.OK, append(code(Nil, Return), times(300, Instr{Op: Nil})...))
}

// 3.2: ways may be long, and each instruction may be where many meet.
func TestLongWays(t *testing.T) {
	long := append(times(4998, Instr{Op: Stop}), code(Nil, Return)...)
	wantWays(t, "5000 instructions", api.OK, long)
	var c []Instr
	for i := range 2499 {
		c = append(c, Instr{Op: True}, Instr{Op: Unless, A: 2 * ((i * 7919) % 2499)})
	}
	wantWays(t, "2499 jumps", api.OK, append(c, code(Nil, Return)...))
	wantWays(t, "2499 jumps, the last instruction too few", api.ErrForm, append(c, code(Pop, Nil)...))
	var back []Instr
	for i := range 4999 {
		back = append(back, Instr{Op: Jump, A: i - 1})
	}
	back[0] = Instr{Op: Jump, A: 4998}
	back[1] = Instr{Op: Pop}
	wantWays(t, "a way from the end to the beginning", api.ErrForm, append(back, code(Nil)...))
	back[1] = Instr{Op: Jump, A: 1}
	wantWays(t, "a way from the end to the beginning", api.OK, append(back, code(Nil)...))
}
