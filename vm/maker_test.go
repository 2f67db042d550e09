package vm

import "rewind/code"

// maker draws images with which nothing is wrong, whatever they do.
type maker struct {
	die
	image *code.Image
}

func (m *maker) one(l ...int) int { return l[m.n(len(l))] }

// drawn is an image: what its functions do hangs together in nothing.
func (m *maker) drawn() *code.Image {
	m.image = &code.Image{Consts: []code.Const{
		{N: 7}, {Text: true, S: "init"}, {Text: true, S: "m"}, {Text: true, S: "p"}, {N: 0}, {N: least}, {Text: true}, {N: -1}, {Text: true, S: "q"}, {N: 1},
	}}
	for i := range 2 + m.n(4) {
		params := m.one(0, 0, 1, 2)
		if i == 0 {
			params = m.n(2)
		}
		m.image.Funcs = append(m.image.Funcs, code.Func{Params: params, Slots: params + m.n(4)})
	}
	for i := range 1 + m.n(3) {
		m.image.Classes = append(m.image.Classes, m.class(i))
	}
	for i := range m.image.Funcs {
		m.body(&m.image.Funcs[i])
	}
	return m.image
}

func (m *maker) class(number int) code.Class {
	c := code.Class{Name: string(rune('A' + number)), Above: m.n(number+1) - 1}
	for _, name := range []string{"p", "q"} {
		if m.n(3) > 0 {
			c.Fields = append(c.Fields, name)
		}
	}
	if m.n(10) == 0 {
		c.Fields = append(make([]string, 58+m.n(4)), c.Fields...)
	}
	for _, name := range []string{"m", "init"} {
		if m.n(3) == 0 {
			c.Names = append(c.Names, name)
			c.Methods = append(c.Methods, 1+m.n(len(m.image.Funcs)-1))
		}
	}
	return c
}

// body draws a function's code, along which it counts the values; jumps go where there are just as many.
func (m *maker) body(f *code.Func) {
	values := []int{0}
	// where are the places with so many values.
	where := map[int][]int{0: {0}}
	add := func(i code.Instr, takes, leaves int) {
		now := values[len(values)-1] + leaves - takes
		f.Code = append(f.Code, i)
		values = append(values, now)
		where[now] = append(where[now], len(f.Code))
	}
	for range 4 + m.n(30) {
		if m.n(6) == 0 && values[len(values)-1] < 9 {
			m.phrase(f, add)
		} else {
			add(m.instr(f, values[len(values)-1]))
		}
	}
	for range values[len(values)-1] {
		f.Code = append(f.Code, code.Instr{Op: code.Pop})
	}
	f.Code = append(f.Code, code.Instr{Op: code.Nil}, code.Instr{Op: code.Return})
	for at := range f.Code[:len(values)-1] {
		i := &f.Code[at]
		left := values[at]
		switch i.Op {
		case code.Unless:
			left--
		case code.Jump, code.IfTrue, code.IfFalse:
		default:
			continue
		}
		if l := where[left]; len(l) > 0 {
			i.A = l[m.n(len(l))]
		} else {
			i.Op = code.Pop
		}
	}
	for range m.n(4) {
		if l := where[1]; len(l) > 0 {
			from := m.n(len(f.Code))
			f.Handlers = append(f.Handlers, code.Handler{From: from, To: from + m.n(len(f.Code)-from+1), Target: l[m.n(len(l))]})
		}
	}
}

// phrase draws some instructions that have the kinds of values that they ask for.
func (m *maker) phrase(f *code.Func, add func(i code.Instr, takes, leaves int)) {
	push := func() { add(code.Instr{Op: code.Push, A: m.one(0, 4, 4, 5, 7, 9)}, 0, 1) }
	switch m.n(4) {
	case 0:
		push()
		push()
		add(code.Instr{Op: m.one(code.Less, code.Add, code.Sub, code.Mul, code.Div, code.Mod)}, 2, 1)
	case 1:
		push()
		add(code.Instr{Op: code.List, A: 1}, 1, 1)
		push()
		add(code.Instr{Op: code.Elem}, 2, 1)
	case 2:
		push()
		add(code.Instr{Op: code.Closure, A: 1 + m.n(len(m.image.Funcs)-1), B: 1}, 1, 1)
		add(code.Instr{Op: code.Call}, 1, 1)
	case 3:
		if f.Slots > 0 {
			push()
			add(code.Instr{Op: code.Box}, 1, 0)
			add(code.Instr{Op: code.LoadBox}, 0, 1)
		}
	}
}

// instr draws an instruction for which there are values enough.
func (m *maker) instr(f *code.Func, values int) (i code.Instr, takes, leaves int) {
	for {
		i, takes, leaves = m.any(f)
		if takes <= values && values-takes+leaves <= 12 {
			return i, takes, leaves
		}
	}
}

// any draws an instruction that names what is there; how many values it takes and leaves.
func (m *maker) any(f *code.Func) (i code.Instr, takes, leaves int) {
	pushes := [][]int{{code.Nil}, {code.True}, {code.False}, {code.Input}, {code.Push, m.n(len(m.image.Consts))}, {code.Push, m.one(0, 4, 9)}, {code.Cap, m.n(3), m.one(0, 0, 1, 2)}, {code.LoadCap, m.n(2), m.one(0, 0, 1)}}
	takers := []int{code.Print, code.Pop, code.Pop, code.Unless, code.StoreCap, code.Throw, code.IfTrue, code.IfFalse}
	switch m.n(14) {
	case 0, 1, 2:
		l := append(pushes[m.n(len(pushes))], 0, 0)
		return code.Instr{Op: l[0], A: l[1], B: l[2]}, 0, 1
	case 3, 4:
		return code.Instr{Op: m.one(code.Stop, code.Stop, code.Caught, code.Jump), A: m.n(9)}, 0, 0
	case 5:
		return code.Instr{Op: takers[m.n(len(takers))]}, 1, 0
	case 6:
		return code.Instr{Op: m.one(code.Truth, code.Neg, code.Not, code.Len, code.Get), A: m.one(1, 2, 3, 8)}, 1, 1
	case 7, 8:
		return code.Instr{Op: m.one(code.Same, code.Less, code.Add, code.Add, code.Sub, code.Mul, code.Div, code.Mod, code.Elem)}, 2, 1
	case 9:
		many := m.n(4)
		return code.Instr{Op: code.List, A: many, B: m.one(0, 0, 0, 1)}, many, 1
	case 10:
		if m.n(3) == 0 {
			return code.Instr{Op: code.SetElem}, 3, 0
		}
		return code.Instr{Op: code.SetGet, A: m.one(1, 2, 3, 8)}, 2, 0
	case 11, 12:
		return m.call()
	}
	if f.Slots == 0 {
		return code.Instr{Op: code.Stop}, 0, 0
	}
	if slot := m.n(f.Slots); m.n(2) == 0 {
		return code.Instr{Op: m.one(code.Load, code.Load, code.LoadBox), A: slot}, 0, 1
	} else {
		return code.Instr{Op: m.one(code.Store, code.Store, code.Box, code.StoreBox), A: slot}, 1, 0
	}
}

func (m *maker) call() (i code.Instr, takes, leaves int) {
	function, many := 1+m.n(len(m.image.Funcs)-1), m.n(3)
	switch m.n(6) {
	case 0:
		params := m.image.Funcs[function].Params
		return code.Instr{Op: code.CallFn, A: function, B: params}, params, 1
	case 1:
		return code.Instr{Op: code.Closure, A: function, B: many}, many, 1
	case 2:
		return code.Instr{Op: code.Call, B: many}, many + 1, 1
	case 3:
		return code.Instr{Op: code.New, A: m.n(len(m.image.Classes)), B: many}, many, 1
	case 4:
		return code.Instr{Op: code.Send, A: m.one(1, 2, 3), B: many}, many + 1, 1
	}
	return code.Instr{Op: code.Super, A: m.one(1, 2, 3), B: m.n(len(m.image.Classes))*code.SuperStep + many}, many + 1, 1
}
