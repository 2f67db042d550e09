package code

// mark is what an image's bytes begin with.
const mark = "RWND"

// writer has the bytes that were written so far.
type writer struct {
	bytes []byte
}

// Encode writes an image as bytes.
func Encode(m *Image) (_ []byte) {
	if m == nil {
		return nil
	}
	w := &writer{bytes: []byte(mark)}
	writeList(w, m.Consts, w.constant)
	writeList(w, m.Classes, w.class)
	writeList(w, m.Funcs, w.function)
	w.number(sum(w.bytes))
	return w.bytes
}

// writeList writes how many things there are, and each of them.
func writeList[T any](w *writer, l []T, write func(T)) {
	w.number(len(l))
	for _, x := range l {
		write(x)
	}
}

func (w *writer) constant(c Const) {
	w.truth(c.Text)
	if c.Text {
		w.text(c.S)
		return
	}
	w.number(c.N)
}

func (w *writer) class(c Class) {
	w.text(c.Name)
	w.number(c.Above)
	writeList(w, c.Fields, w.text)
	w.number(len(c.Names))
	for i, name := range c.Names {
		w.text(name)
		// Only what Check lets through has a method for each name.
		method := 0
		if i < len(c.Methods) {
			method = c.Methods[i]
		}
		w.number(method)
	}
}

func (w *writer) function(f Func) {
	w.text(f.Name)
	w.numbers(f.Params, f.Slots)
	writeList(w, f.Code, func(i Instr) { w.numbers(i.Op, i.A, i.B) })
	writeList(w, f.Handlers, func(h Handler) { w.numbers(h.From, h.To, h.Target) })
	writeList(w, f.Vars, func(v Var) {
		w.text(v.Name)
		w.numbers(v.Slot, v.From, v.To)
		w.truth(v.Boxed)
	})
}

func (w *writer) numbers(l ...int) {
	for _, n := range l {
		w.number(n)
	}
}

// number writes small numbers short, those below 0, too.
func (w *writer) number(n int) {
	u := uint64(n) << 1
	if n < 0 {
		u = ^u
	}
	for ; u > 127; u >>= 7 {
		w.bytes = append(w.bytes, byte(u)|128)
	}
	w.bytes = append(w.bytes, byte(u))
}

func (w *writer) text(s string) {
	w.number(len(s))
	w.bytes = append(w.bytes, s...)
}

func (w *writer) truth(yes bool) {
	if yes {
		w.number(1)
		return
	}
	w.number(0)
}

// sum is what stands behind an image's bytes, by which one that turned is seen.
func sum(b []byte) int {
	s := 7
	for _, x := range b {
		s = (37*s + int(x)) % 8191
	}
	return s
}
