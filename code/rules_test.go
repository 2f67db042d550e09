package code

import (
	"bytes"
	"slices"
	"sync"
	"testing"

	"rewind/api"
)

// 3.1 to 3.3: of images that look drawn Check says what the document says, their bytes are the document's, and are them again.
func TestAnyImage(t *testing.T) {
	m := &maker{seed: 3}
	found := map[api.Errno]int{}
	for range 20_000 {
		x := m.image()
		err, at := judged(x)
		found[err]++
		wantCheck(t, "drawn", x, err, at)
		b := Encode(x)
		if want := sealed(joined(parts(x))); !bytes.Equal(b, want) {
			t.Errorf("%v: %x, want %x", *x, b, want)
		}
		wantDecode(t, "drawn", b, err, at)
		if back, _ := Decode(b); err == api.OK && !same(back, x) {
			t.Errorf("%v: comes back as %v", *x, *back)
		}
		if t.Failed() {
			t.Fatalf("%v", *x)
		}
	}
	for _, e := range []api.Errno{api.OK, api.ErrRange, api.ErrLimit, api.ErrForm} {
		if found[e] < 500 {
			t.Errorf("error %d: of %d images: they don't ask for it", e, found[e])
		}
	}
}

// 3.3, P1: Decode ends, whatever bytes there are; what it makes of them has these bytes again, and nothing is wrong with it.
func TestAnyBytes(t *testing.T) {
	m := &maker{seed: 4}
	found := map[api.Errno]int{}
	for range 40_000 {
		b := open(m.image())
		for range m.n(3) {
			switch at := m.n(len(b)); m.n(4) {
			case 0:
				b[at] ^= 1 << m.n(8)
			case 1:
				b[at] = byte(m.n(256))
			case 2:
				b = slices.Delete(b, at, at+1)
			case 3:
				b = slices.Insert(b, at, byte(m.one(0, 1, 2, 127, 128, 255)))
			}
		}
		if m.n(20) > 0 {
			b = sealed(b)
		}
		x, err := Decode(b)
		found[api.Tell(err)]++
		if (x == nil) == (err == nil) {
			t.Fatalf("%x: %v, error %d", b, x, api.Tell(err))
		}
		if x != nil && (!bytes.Equal(Encode(x), b) || Check(x) != nil) {
			t.Fatalf("%x: %v, whose bytes are %x, error %d", b, *x, Encode(x), api.Tell(Check(x)))
		}
	}
	for _, e := range []api.Errno{api.OK, api.ErrRange, api.ErrLimit, api.ErrForm} {
		if found[e] < 500 {
			t.Errorf("error %d: of %d bytes: they don't ask for it", e, found[e])
		}
	}
}

// P4: what is handed in stays as it was, and what stands behind a list's length, too.
func TestUnchanged(t *testing.T) {
	m := right()
	room := make([]byte, 0, 1000)
	b := append(room, Encode(m)...)
	behind := b[len(b):cap(b)]
	if _, err := Decode(b); err != nil || !bytes.Equal(b, Encode(m)) || !bytes.Equal(behind, make([]byte, len(behind))) {
		t.Errorf("error %d, or Decode changed what it was given", api.Tell(err))
	}
	if err := Check(m); err != nil || !same(m, right()) {
		t.Errorf("error %d, or Check or Encode changed what it was given", api.Tell(err))
	}
}

// P4: what comes out is fresh: no list of it shares memory with another one, or with what was handed in.
func TestFresh(t *testing.T) {
	b := Encode(right())
	a, err := Decode(b)
	c, err2 := Decode(b)
	if err != nil || err2 != nil {
		t.Fatal(err, err2)
	}
	clear(b)
	if !same(a, right()) {
		t.Error("an image shares memory with its bytes")
	}
	for i := range c.Classes {
		_, _, _ = append(c.Classes[i].Fields, "z"), append(c.Classes[i].Names, "z"), append(c.Classes[i].Methods, 9)
	}
	for i := range c.Funcs {
		_, _, _ = append(c.Funcs[i].Code, Instr{}), append(c.Funcs[i].Handlers, Handler{}), append(c.Funcs[i].Vars, Var{})
	}
	_, _, _ = append(c.Consts, Const{}), append(c.Classes, Class{}), append(c.Funcs, Func{})
	if !same(c, right()) {
		t.Error("two lists of an image share memory")
	}
	for i := range c.Classes {
		clear(c.Classes[i].Fields)
		clear(c.Classes[i].Methods)
		want := right().Classes[i]
		clear(want.Fields)
		clear(want.Methods)
		if !sameClass(c.Classes[i], want) {
			t.Errorf("two lists of class %d share memory", i)
		}
	}
	clear(c.Classes)
	clear(c.Consts)
	clear(c.Funcs)
	if !same(a, right()) {
		t.Error("two images share memory")
	}
}

// P4: two calls' bytes are each caller's own.
func TestFreshBytes(t *testing.T) {
	m := right()
	a, b := Encode(m), Encode(m)
	clear(a)
	_ = append(a[:0], "other bytes"...)
	if !bytes.Equal(b, Encode(right())) || !same(m, right()) {
		t.Error("bytes share memory")
	}
}

// P4: what a call answers hangs on its arguments alone, however many there are at the same time.
func TestAtTheSameTime(t *testing.T) {
	m, b := right(), Encode(right())
	bad := right()
	bad.Funcs[2].Code = code(Pop)
	var wait sync.WaitGroup
	for range 8 {
		wait.Go(func() {
			for range 50 {
				wantCheck(t, "right", m, api.OK, noPlace)
				wantCheck(t, "wrong", bad, api.ErrForm, 2)
				if x, err := Decode(b); err != nil || !same(x, m) || !bytes.Equal(Encode(x), b) {
					t.Errorf("another image, error %d", api.Tell(err))
				}
			}
		})
	}
	wait.Wait()
}
