package code

// maker makes images that look drawn, the same each time: about half of them may be run.
type maker struct {
	seed uint64
}

func (m *maker) n(most int) int {
	m.seed = m.seed*6364136223846793005 + 1442695040888963407
	return int((m.seed >> 33) % uint64(most))
}

// one of these numbers.
func (m *maker) one(l ...int) int { return l[m.n(len(l))] }

// rarely: one time of so many.
func (m *maker) rarely(many int) bool { return m.n(many) == 0 }

func (m *maker) image() *Image {
	x := &Image{}
	for range m.n(4) {
		c := Const{N: m.one(0, 1, -1, 63, 64, -65, least, greatest)}
		if m.n(3) > 0 {
			c = Const{Text: true, S: string(make([]byte, m.one(0, 1, 3, 70)))}
		}
		x.Consts = append(x.Consts, c)
	}
	funcs := 1 + m.n(4)
	for i := range m.n(4) {
		x.Classes = append(x.Classes, m.class(i, funcs))
	}
	for range funcs {
		x.Funcs = append(x.Funcs, Func{Name: string(rune('a' + m.n(26))), Params: m.n(3), Slots: 2 + m.n(3)})
	}
	for i := range x.Funcs {
		m.body(x, &x.Funcs[i])
	}
	if m.rarely(3) {
		m.breakOne(x)
	}
	return x
}

func (m *maker) class(number, funcs int) Class {
	c := Class{Name: "C", Above: m.n(number+1) - 1}
	for range m.n(3) {
		c.Fields = append(c.Fields, "f")
	}
	if funcs > 1 {
		for range m.n(3) {
			c.Names = append(c.Names, "m")
			c.Methods = append(c.Methods, 1+m.n(funcs-1))
		}
	}
	return c
}

// body makes code that has the values it takes, so far as it does not jump.
func (m *maker) body(x *Image, f *Func) {
	values := 0
	for range m.n(9) {
		i, ok := m.instr(x, f, values)
		if !ok {
			continue
		}
		r, _ := rowOf(x, *f, i)
		values += r.leaves - r.all(i)
		f.Code = append(f.Code, i)
	}
	f.Code = append(f.Code, code(Nil, Return)...)
	many := len(f.Code)
	if m.rarely(3) {
		f.Code = append(f.Code, code(Caught, Pop, Jump)...)
		f.Code[many+2].A = many - 2
		f.Handlers = append(f.Handlers, Handler{m.n(many), many + m.n(4), many + m.n(2)})
	}
	if m.rarely(3) {
		f.Vars = append(f.Vars, Var{"v", m.n(f.Slots), m.n(many), many, m.rarely(2)})
	}
	if m.rarely(4) {
		f.Code[m.n(many)] = Instr{m.one(Jump, Unless, IfTrue, IfFalse), m.n(len(f.Code)), 0}
	}
}

// instr is an instruction that names what is there and takes what is there; false: none was drawn.
func (m *maker) instr(x *Image, f *Func, values int) (Instr, bool) {
	i := Instr{1 + m.n(45), m.n(4), m.n(4)}
	if i.Op == Super {
		i.B += 64 * m.n(3)
	}
	// Where it goes on is not there yet.
	if i.Op >= Jump && i.Op <= IfFalse || i.Op == Return || i.Op == Throw {
		return i, false
	}
	r, ok := rowOf(x, *f, i)
	return i, ok && r.all(i) <= values
}

// breakOne makes one thing of an image another one.
func (m *maker) breakOne(x *Image) {
	f := &x.Funcs[m.n(len(x.Funcs))]
	i := &f.Code[m.n(len(f.Code))]
	odd := m.one(-1, 0, 1, 2, 3, 4, 5, 50, 51, 64, 200, 201, least, greatest)
	switch m.n(12) {
	case 0:
		i.Op = m.n(48) - 1
	case 1:
		i.A = odd
	case 2:
		i.B = odd
	case 3:
		*i = Instr{1 + m.n(45), odd, m.one(-1, 0, 1, 2, 64, 115)}
	case 4:
		f.Params = odd
	case 5:
		f.Slots = odd
	case 6:
		f.Handlers = append(f.Handlers, Handler{m.n(4) - 1, m.n(12), m.n(12) - 1})
	case 7:
		f.Vars = append(f.Vars, Var{"w", m.n(7) - 1, m.n(4) - 1, m.n(12), false})
	case 8:
		f.Code = nil
	default:
		if len(x.Classes) > 0 {
			m.breakClass(x)
		}
	}
}

func (m *maker) breakClass(x *Image) {
	c := &x.Classes[m.n(len(x.Classes))]
	switch m.n(3) {
	case 0:
		c.Above = m.n(6) - 2
	case 1:
		c.Names = append(c.Names, "n")
	case 2:
		c.Names, c.Methods = append(c.Names, "n"), append(c.Methods, m.n(6)-1)
	}
}
