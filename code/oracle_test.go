package code

import (
	"encoding/binary"
	"slices"

	"rewind/api"
)

// What the document says, once more and otherwise: slow, and in its words.

// kinds of what an image's bytes are made of.
const (
	aNumber = iota
	aCount
	aTruth
	bytesOfText
)

// part is a number, or a text's bytes, as an image's bytes have it.
type part struct {
	kind  int
	bytes []byte
}

// parts are an image's bytes between the first four and the SUM, piece by piece, the first four ahead.
func parts(m *Image) []part {
	l := []part{{bytesOfText, []byte("RWND")}}
	put := func(kind int, n ...int) {
		for _, x := range n {
			l = append(l, part{kind, binary.AppendVarint(nil, int64(x))})
		}
	}
	text := func(s string) {
		put(aCount, len(s))
		l = append(l, part{bytesOfText, []byte(s)})
	}
	truth := func(b bool) {
		put(aTruth, map[bool]int{true: 1}[b])
	}
	put(aCount, len(m.Consts))
	for _, c := range m.Consts {
		truth(c.Text)
		if c.Text {
			text(c.S)
		} else {
			put(aNumber, c.N)
		}
	}
	put(aCount, len(m.Classes))
	for _, c := range m.Classes {
		text(c.Name)
		put(aNumber, c.Above)
		put(aCount, len(c.Fields))
		for _, s := range c.Fields {
			text(s)
		}
		put(aCount, len(c.Names))
		for i, s := range c.Names {
			text(s)
			put(aNumber, append(slices.Clone(c.Methods), make([]int, len(c.Names))...)[i])
		}
	}
	put(aCount, len(m.Funcs))
	for _, f := range m.Funcs {
		text(f.Name)
		put(aNumber, f.Params, f.Slots)
		put(aCount, len(f.Code))
		for _, i := range f.Code {
			put(aNumber, i.Op, i.A, i.B)
		}
		put(aCount, len(f.Handlers))
		for _, h := range f.Handlers {
			put(aNumber, h.From, h.To, h.Target)
		}
		put(aCount, len(f.Vars))
		for _, v := range f.Vars {
			text(v.Name)
			put(aNumber, v.Slot, v.From, v.To)
			truth(v.Boxed)
		}
	}
	return l
}

// joined is all parts, one behind the other.
func joined(l []part) []byte {
	var b []byte
	for _, p := range l {
		b = append(b, p.bytes...)
	}
	return b
}

// changed is parts of which one has other bytes.
func changed(l []part, at int, b []byte) []part {
	l = slices.Clone(l)
	l[at].bytes = b
	return l
}

// is: are all of these so?
func is(l ...bool) bool { return !slices.Contains(l, false) }

// from: is a number from one to another one?
func from(low, n, high int) bool { return low <= n && n <= high }

// judged is what Check must say.
func judged(m *Image) (api.Errno, int) {
	if m == nil {
		return api.ErrMissing, noPlace
	}
	if !is(from(1, len(m.Funcs), 250), len(m.Consts) <= 1000, len(m.Classes) <= 250) {
		return api.ErrLimit, noPlace
	}
	for i, c := range m.Classes {
		if !is(from(-1, c.Above, len(m.Classes)-1), len(c.Names) == len(c.Methods)) {
			return api.ErrRange, noPlace
		}
		for _, f := range c.Methods {
			if !from(1, f, len(m.Funcs)-1) {
				return api.ErrRange, noPlace
			}
		}
		if aboveItself(m, i) {
			return api.ErrRange, noPlace
		}
	}
	for i, f := range m.Funcs {
		if err := judgedFunc(m, f); err != api.OK {
			return err, i
		}
	}
	return api.OK, noPlace
}

// aboveItself has all classes above one, each once.
func aboveItself(m *Image, class int) bool {
	above := map[int]bool{}
	for at := m.Classes[class].Above; from(0, at, len(m.Classes)-1) && !above[at]; at = m.Classes[at].Above {
		above[at] = true
	}
	return above[class]
}

func judgedFunc(m *Image, f Func) api.Errno {
	many := len(f.Code)
	if !is(from(1, many, 5000), from(0, f.Params, 8), from(f.Params, f.Slots, 200)) {
		return api.ErrLimit
	}
	for _, i := range f.Code {
		if _, ok := rowOf(m, f, i); !ok {
			return api.ErrRange
		}
	}
	for _, h := range f.Handlers {
		if !is(from(0, h.From, h.To), h.To <= many, from(0, h.Target, many-1)) {
			return api.ErrRange
		}
	}
	for _, v := range f.Vars {
		if !is(from(0, v.Slot, f.Slots-1), from(0, v.From, v.To), v.To <= many) {
			return api.ErrRange
		}
	}
	if !judgedWays(m, f) {
		return api.ErrForm
	}
	return api.OK
}

// rows are those of the table of 3.1, by operations.
var rows = func() map[int]row {
	l := map[int]row{CallFn: {nil, aFunction, aFew, 0, 1, byB}}
	for _, r := range table() {
		for _, op := range r.ops {
			l[op] = r
		}
	}
	return l
}()

// rowOf is what the table of 3.1 has of an instruction, if that names what is there.
func rowOf(m *Image, f Func, i Instr) (row, bool) {
	r, ok := rows[i.Op]
	if !is(ok, there(m, f, r.a, i.A), there(m, f, r.b, i.B)) {
		return r, false
	}
	return r, i.Op != CallFn || i.B == m.Funcs[i.A].Params
}

func there(m *Image, f Func, what named, n int) bool {
	switch what {
	case aConstant:
		return from(0, n, len(m.Consts)-1)
	case aText:
		return from(0, n, len(m.Consts)-1) && m.Consts[n].Text
	case aSlot:
		return from(0, n, f.Slots-1)
	case aFew:
		return from(0, n, 50)
	case anInstruction:
		return from(0, n, len(f.Code)-1)
	case aClass:
		return from(0, n, len(m.Classes)-1)
	case aFunction:
		return from(1, n, len(m.Funcs)-1)
	case aSuper:
		return is(n >= 0, from(0, n/64, len(m.Classes)-1), from(0, n%64, 50))
	}
	return true
}

// judgedWays keeps all numbers of values with which one comes to each instruction, until there are no new ones.
func judgedWays(m *Image, f Func) bool {
	come := make([]map[int]bool, len(f.Code)+1)
	for i := range come {
		come[i] = map[int]bool{}
	}
	come[0][0] = true
	for _, h := range f.Handlers {
		come[h.Target][1] = true
	}
	for again := true; again; {
		again = false
		for at, i := range f.Code {
			r, _ := rowOf(m, f, i)
			for values := range come[at] {
				rest := values - r.all(i)
				if rest < 0 || values > 200 || len(come[at]) > 1 {
					return false
				}
				for to, n := range next(at, i, rest, r.leaves) {
					again = again || !come[to][n]
					come[to][n] = true
				}
			}
		}
	}
	return len(come[len(f.Code)]) == 0
}

// next is where an instruction goes on, and with how many values.
func next(at int, i Instr, rest, leaves int) map[int]int {
	switch i.Op {
	case Return, Throw:
		return nil
	case Jump:
		return map[int]int{i.A: rest}
	case Unless:
		return map[int]int{i.A: rest, at + 1: rest}
	case IfTrue, IfFalse:
		if i.A == at+1 { // with unlike numbers of values
			return map[int]int{i.A: 1000}
		}
		return map[int]int{i.A: rest + 1, at + 1: rest}
	}
	return map[int]int{at + 1: rest + leaves}
}
