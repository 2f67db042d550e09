package code

import (
	"fmt"
	"slices"
	"testing"

	"rewind/api"
)

// 3.2: images with which nothing is wrong.
func TestRight(t *testing.T) {
	wantCheck(t, "right", right(), api.OK, noPlace)
	least := &Image{Funcs: []Func{{Code: []Instr{{Op: Jump}}}}}
	wantCheck(t, "one function, one instruction", least, api.OK, noPlace)
	if err := Check(right()); err != nil {
		t.Errorf("nothing is wrong, but the error is %#v", err)
	}
}

// 3.2: there must be an image, of 1 to 250 functions, at most 1000 constants and 250 classes.
func TestHowMany(t *testing.T) {
	wantCheck(t, "nil", nil, api.ErrMissing, noPlace)
	wantCheck(t, "nothing", &Image{}, api.ErrLimit, noPlace)
	for _, c := range []struct {
		funcs, consts, classes int
		err                    api.Errno
	}{
		{0, 0, 0, api.ErrLimit}, {1, 0, 0, api.OK}, {250, 0, 0, api.OK}, {251, 0, 0, api.ErrLimit},
		{1, 1000, 0, api.OK}, {1, 1001, 0, api.ErrLimit},
		{1, 0, 250, api.OK}, {1, 0, 251, api.ErrLimit},
		{250, 1000, 250, api.OK}, {0, 1000, 250, api.ErrLimit},
	} {
		m := &Image{
			Funcs:   slices.Repeat([]Func{{Code: code(Nil, Return)}}, c.funcs),
			Consts:  make([]Const, c.consts),
			Classes: slices.Repeat([]Class{{Above: -1}}, c.classes),
		}
		wantCheck(t, fmt.Sprint(c.funcs, " functions, ", c.consts, " constants, ", c.classes, " classes"), m, c.err, noPlace)
	}
}

// 3.2: what is above a class: -1, or a class, none above itself.
func TestAbove(t *testing.T) {
	for _, c := range []struct {
		above []int
		err   api.Errno
	}{
		{[]int{-1}, api.OK},
		{[]int{0}, api.ErrRange},
		{[]int{1}, api.ErrRange},
		{[]int{-2}, api.ErrRange},
		{[]int{least}, api.ErrRange},
		{[]int{greatest}, api.ErrRange},
		{[]int{1, -1}, api.OK},
		{[]int{-1, 0}, api.OK},
		{[]int{-1, 2}, api.ErrRange},
		{[]int{-1, 1}, api.ErrRange},
		{[]int{1, 0}, api.ErrRange},
		{[]int{1, 2, 3, -1}, api.OK},
		{[]int{3, 3, 3, -1}, api.OK},
		{[]int{-1, 0, 1, 2}, api.OK},
		{[]int{1, 2, 0}, api.ErrRange},
		{[]int{-1, 3, 1, 2}, api.ErrRange},
		{[]int{1, 2, 2}, api.ErrRange},
		{[]int{1, 2, 3, 1}, api.ErrRange},
		{[]int{1, 2, 3, 4}, api.ErrRange},
	} {
		m := around(code(Nil, Return)...)
		m.Classes = nil
		for _, above := range c.above {
			m.Classes = append(m.Classes, Class{Above: above})
		}
		wantCheck(t, fmt.Sprint("above: ", c.above), m, c.err, noPlace)
	}
}

// 3.2: as many classes as there may be, one above the other; and all of them round.
func TestLongAbove(t *testing.T) {
	m := around(code(Nil, Return)...)
	m.Classes = nil
	for i := range 250 {
		m.Classes = append(m.Classes, Class{Above: i - 1})
	}
	wantCheck(t, "250 classes", m, api.OK, noPlace)
	m.Classes[0].Above = 249
	wantCheck(t, "250 classes round", m, api.ErrRange, noPlace)
	slices.Reverse(m.Classes)
	for i := range m.Classes {
		m.Classes[i].Above = i + 1
	}
	m.Classes[249].Above = -1
	wantCheck(t, "250 classes, the last one topmost", m, api.OK, noPlace)
}

// 3.2: as many Names as Methods, each a function, not 0.
func TestMethods(t *testing.T) {
	for _, c := range []struct {
		names   []string
		methods []int
		err     api.Errno
	}{
		{nil, nil, api.OK},
		{[]string{}, nil, api.OK},
		{[]string{"a"}, []int{1}, api.OK},
		{[]string{"a", "a", ""}, []int{2, 2, 1}, api.OK},
		{[]string{"a"}, nil, api.ErrRange},
		{nil, []int{1}, api.ErrRange},
		{[]string{"a", "b"}, []int{1}, api.ErrRange},
		{[]string{"a"}, []int{1, 2}, api.ErrRange},
		{[]string{"a"}, []int{0}, api.ErrRange},
		{[]string{"a"}, []int{3}, api.ErrRange},
		{[]string{"a"}, []int{-1}, api.ErrRange},
		{[]string{"a", "b"}, []int{1, greatest}, api.ErrRange},
		{[]string{"a", "b"}, []int{least, 1}, api.ErrRange},
	} {
		for class := range 2 {
			m := around(code(Nil, Return)...)
			m.Classes[class].Names, m.Classes[class].Methods = c.names, c.methods
			wantCheck(t, fmt.Sprint(c.names, c.methods, " of class ", class), m, c.err, noPlace)
		}
	}
}

// 3.2: how many instructions, parameters and slots a function may have.
func TestSizes(t *testing.T) {
	for _, c := range []struct {
		code, params, slots int
		err                 api.Errno
	}{
		{0, 0, 0, api.ErrLimit}, {1, 0, 0, api.OK}, {5000, 0, 0, api.OK}, {5001, 0, 0, api.ErrLimit},
		{1, 8, 8, api.OK}, {1, 9, 9, api.ErrLimit}, {1, -1, 0, api.ErrLimit}, {1, -1, -1, api.ErrLimit}, {1, least, 0, api.ErrLimit}, {1, greatest, greatest, api.ErrLimit},
		{1, 0, 200, api.OK}, {1, 8, 200, api.OK}, {1, 0, 201, api.ErrLimit}, {1, 8, 7, api.ErrLimit}, {1, 1, 0, api.ErrLimit}, {1, 0, -1, api.ErrLimit}, {1, 0, least, api.ErrLimit}, {1, 0, greatest, api.ErrLimit},
	} {
		for at := range 3 {
			m := around(code(Nil, Return)...)
			m.Funcs[at] = Func{Params: c.params, Slots: c.slots, Code: make([]Instr, c.code)}
			for i := range m.Funcs[at].Code {
				m.Funcs[at].Code[i] = Instr{Op: Jump}
			}
			place := at
			if c.err == api.OK {
				place = noPlace
			}
			wantCheck(t, fmt.Sprint(c.code, " instructions, ", c.params, " parameters, ", c.slots, " slots"), m, c.err, place)
		}
	}
}

// spans are Froms and Tos in code of 4 instructions: some that may be, and some that may not.
func spans() (right, wrong [][2]int) {
	return [][2]int{{0, 0}, {0, 4}, {4, 4}, {2, 2}, {1, 3}, {3, 4}},
		[][2]int{{-1, 0}, {-1, -1}, {0, -1}, {0, 5}, {5, 5}, {4, 5}, {3, 2}, {4, 0}, {1, 0}, {least, 4}, {0, greatest}, {greatest, least}, {greatest, greatest}}
}

// fourLong is an image of a function with 4 instructions and 4 slots, of which the last one may be a Target.
func fourLong() *Image {
	return around(code(Nil, Return, Pop, Return)...)
}

// 3.2: a handler's From, To and Target.
func TestHandlers(t *testing.T) {
	right, wrong := spans()
	with := func(h Handler) *Image {
		m := fourLong()
		m.Funcs[0].Handlers = []Handler{{0, 4, 3}, h}
		return m
	}
	for _, s := range right {
		h := Handler{s[0], s[1], 3}
		wantCheck(t, fmt.Sprint(h), with(h), api.OK, noPlace)
	}
	for _, s := range wrong {
		h := Handler{s[0], s[1], 3}
		wantCheck(t, fmt.Sprint(h), with(h), api.ErrRange, 0)
	}
	for _, target := range []int{-1, 4, 5, least, greatest} {
		h := Handler{0, 4, target}
		wantCheck(t, fmt.Sprint(h), with(h), api.ErrRange, 0)
	}
}

// 3.2: a Var's slot, From and To.
func TestVars(t *testing.T) {
	right, wrong := spans()
	with := func(v Var) *Image {
		m := fourLong()
		m.Funcs[0].Vars = []Var{{"a", 0, 0, 4, false}, v}
		return m
	}
	for _, s := range right {
		for _, slot := range []int{0, 3} {
			v := Var{"", slot, s[0], s[1], true}
			wantCheck(t, fmt.Sprint(v), with(v), api.OK, noPlace)
		}
	}
	for _, s := range wrong {
		v := Var{"b", 3, s[0], s[1], false}
		wantCheck(t, fmt.Sprint(v), with(v), api.ErrRange, 0)
	}
	for _, slot := range []int{-1, 4, 5, least, greatest} {
		v := Var{"b", slot, 0, 4, false}
		wantCheck(t, fmt.Sprint(v), with(v), api.ErrRange, 0)
	}
	m := fourLong()
	m.Funcs[2].Vars = []Var{{"b", 0, 0, 0, false}}
	wantCheck(t, "a function without slots", m, api.ErrRange, 2)
}

// 3.2: what is wrong is told in order: as each thing is mended, the next one is told.
func TestOrder(t *testing.T) {
	m := &Image{
		Classes: []Class{{Above: -1, Methods: []int{1}}, {Above: 1}},
		Funcs: slices.Repeat([]Func{{
			Params:   -1,
			Code:     []Instr{{Op: Pop}, {Op: Load, A: 1}},
			Handlers: []Handler{{0, 0, 2}},
			Vars:     []Var{{"v", 1, 0, 0, false}},
		}}, 251),
	}
	for i := range m.Funcs {
		m.Funcs[i].Code = slices.Clone(m.Funcs[i].Code)
		m.Funcs[i].Handlers = slices.Clone(m.Funcs[i].Handlers)
	}
	wantCheck(t, "too many functions", m, api.ErrLimit, noPlace)
	m.Funcs = m.Funcs[:3]
	wantCheck(t, "too many methods", m, api.ErrRange, noPlace)
	m.Classes[0].Names = []string{"m"}
	wantCheck(t, "a class above itself", m, api.ErrRange, noPlace)
	m.Classes[1].Above = 0
	for number := range m.Funcs {
		f := &m.Funcs[number]
		wantCheck(t, "parameters", m, api.ErrLimit, number)
		f.Params, f.Slots = 0, 201
		wantCheck(t, "slots", m, api.ErrLimit, number)
		f.Slots = 1
		wantCheck(t, "an instruction", m, api.ErrRange, number)
		f.Code[1].A = 0
		wantCheck(t, "a handler", m, api.ErrRange, number)
		f.Handlers[0].Target = 0
		wantCheck(t, "a variable", m, api.ErrRange, number)
		f.Vars = nil
		wantCheck(t, "ways to instruction 0", m, api.ErrForm, number)
		f.Handlers = nil
		wantCheck(t, "a value too few", m, api.ErrForm, number)
		f.Code[0] = Instr{Op: Nil}
		wantCheck(t, "nowhere to go on", m, api.ErrForm, number)
		f.Code[1] = Instr{Op: Return}
	}
	wantCheck(t, "all mended", m, api.OK, noPlace)
}

// 3.2: all that is wrong with one function is told ahead of the next one's.
func TestFunctionByFunction(t *testing.T) {
	break1 := []func(f *Func){
		func(f *Func) { f.Code = nil },
		func(f *Func) { f.Code = code(0, Return) },
		func(f *Func) { f.Handlers = []Handler{{1, 0, 0}} },
		func(f *Func) { f.Vars = []Var{{Slot: -1}} },
		func(f *Func) { f.Code = code(Nil) },
	}
	errs := []api.Errno{api.ErrLimit, api.ErrRange, api.ErrRange, api.ErrRange, api.ErrForm}
	for i, first := range break1 {
		for j, second := range break1 {
			m := right()
			first(&m.Funcs[1])
			second(&m.Funcs[2])
			wantCheck(t, fmt.Sprint("breaks ", i, " and ", j), m, errs[i], 1)
			m = right()
			second(&m.Funcs[2])
			wantCheck(t, fmt.Sprint("break ", j), m, errs[j], 2)
		}
	}
	m := &Image{Funcs: slices.Repeat([]Func{{Code: code(Nil, Return)}}, 250)}
	m.Funcs[249].Code = code(Nil, Pop)
	wantCheck(t, "the last function", m, api.ErrForm, 249)
}
