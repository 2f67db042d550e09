package code

import (
	"rewind/api"
)

// maxBytes is how many bytes Decode reads.
const maxBytes = 100_000

// reader takes bytes from the left. Once something is wrong, nothing of what it reads counts.
type reader struct {
	rest  []byte
	wrong bool
}

// Decode reads what Encode writes. ErrLimit: more than 100,000 bytes; ErrForm: Encode doesn't write these; then what Check says.
func Decode(b []byte) (_ *Image, _ error) {
	if len(b) > maxBytes {
		return nil, api.ErrLimit
	}
	r := &reader{rest: b}
	m := r.image()
	read := b[:len(b)-len(r.rest)]
	if r.number() != sum(read) || len(r.rest) > 0 {
		r.wrong = true
	}
	if r.wrong {
		return nil, api.ErrForm
	}
	if err := Check(m); err != nil {
		return nil, err
	}
	return m, nil
}

// list reads how many things there are, and each of them.
func list[T any](r *reader, read func() T) []T {
	var l []T
	for range r.many() {
		if r.wrong {
			return nil
		}
		l = append(l, read())
	}
	return l
}

func (r *reader) image() *Image {
	for i := range len(mark) {
		if r.next() != mark[i] {
			r.wrong = true
		}
	}
	m := &Image{}
	m.Consts = list(r, r.constant)
	m.Classes = list(r, r.class)
	m.Funcs = list(r, r.function)
	return m
}

func (r *reader) constant() Const {
	if r.truth() {
		return Const{Text: true, S: r.text()}
	}
	return Const{N: r.number()}
}

func (r *reader) class() Class {
	c := Class{Name: r.text(), Above: r.number()}
	c.Fields = list(r, r.text)
	c.Names = list(r, func() string {
		name := r.text()
		c.Methods = append(c.Methods, r.number())
		return name
	})
	return c
}

func (r *reader) function() Func {
	f := Func{Name: r.text(), Params: r.number(), Slots: r.number()}
	f.Code = list(r, func() Instr {
		return Instr{Op: r.number(), A: r.number(), B: r.number()}
	})
	f.Handlers = list(r, func() Handler {
		return Handler{From: r.number(), To: r.number(), Target: r.number()}
	})
	f.Vars = list(r, func() Var {
		return Var{Name: r.text(), Slot: r.number(), From: r.number(), To: r.number(), Boxed: r.truth()}
	})
	return f
}

// many is how many things, or bytes, follow: no more than there are bytes, since each takes one at least.
func (r *reader) many() int {
	n := r.number()
	if n < 0 || n > len(r.rest) {
		r.wrong = true
		return 0
	}
	return n
}

func (r *reader) text() string {
	n := r.many()
	s := string(r.rest[:n])
	r.rest = r.rest[n:]
	return s
}

func (r *reader) truth() bool {
	n := r.number()
	if n != 0 && n != 1 {
		r.wrong = true
	}
	return n == 1
}

func (r *reader) number() int {
	u := uint64(0)
	for shift := 0; shift < 64; shift += 7 {
		b := r.next()
		u |= uint64(b&127) << shift
		if b > 127 {
			continue
		}
		// Encode ends no number with a byte that adds nothing, and has 64 bits.
		if b == 0 && shift > 0 || b > 1 && shift == 63 {
			r.wrong = true
		}
		return signed(u)
	}
	r.wrong = true
	return 0
}

// signed is the number that is written as u.
func signed(u uint64) int {
	if u%2 == 1 {
		return ^int(u >> 1)
	}
	return int(u >> 1)
}

func (r *reader) next() byte {
	if len(r.rest) == 0 {
		r.wrong = true
		return 0
	}
	b := r.rest[0]
	r.rest = r.rest[1:]
	return b
}
