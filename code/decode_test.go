package code

import (
	"encoding/binary"
	"fmt"
	"slices"
	"strings"
	"testing"

	"rewind/api"
)

// 3.3: what Encode writes is that image again.
func TestThereAndBack(t *testing.T) {
	for _, m := range []*Image{right(), around(code(Nil, Return)...), {Funcs: []Func{{Code: []Instr{{Op: Jump}}}}}} {
		back, err := Decode(Encode(m))
		if err != nil || !same(back, m) {
			t.Errorf("%v: error %d at %d, %v", m, api.Tell(err), place(err), back)
		}
	}
}

// 3.3: behind the form Decode says what Check says, its place, too.
func TestDecodeChecks(t *testing.T) {
	wantDecode(t, "nothing", Encode(&Image{}), api.ErrLimit, noPlace)
	wantDecode(t, "251 functions", Encode(&Image{Funcs: make([]Func, 251)}), api.ErrLimit, noPlace)
	m := right()
	m.Classes[1].Above = 0
	wantDecode(t, "a class above itself", Encode(m), api.ErrRange, noPlace)
	m = right()
	m.Classes[1].Methods[0] = 0
	wantDecode(t, "function 0 as a method", Encode(m), api.ErrRange, noPlace)
	m = right()
	m.Funcs[1].Params = -1
	wantDecode(t, "parameters", Encode(m), api.ErrLimit, 1)
	m = right()
	m.Funcs[2].Code[0].Op = 0
	wantDecode(t, "no instruction", Encode(m), api.ErrRange, 2)
	m = right()
	m.Funcs[2].Code[0].Op = Pop
	wantDecode(t, "a value too few", Encode(m), api.ErrForm, 2)
}

// 3.3: bytes cut short, with a SUM that fits or without one, are no image's.
func TestCutShort(t *testing.T) {
	wantDecode(t, "nil", nil, api.ErrForm, noPlace)
	wantDecode(t, "none", []byte{}, api.ErrForm, noPlace)
	whole, inner := Encode(right()), open(right())
	if len(inner) == 0 {
		t.Fatal("the SUM is not there")
	}
	for cut := range whole {
		wantDecode(t, fmt.Sprint("the first ", cut, " bytes"), whole[:cut], api.ErrForm, noPlace)
		wantDecode(t, fmt.Sprint("all but the first ", cut+1, " bytes"), whole[cut+1:], api.ErrForm, noPlace)
	}
	for cut := range inner {
		wantDecode(t, fmt.Sprint("the first ", cut, " bytes, with a SUM"), sealed(inner[:cut]), api.ErrForm, noPlace)
	}
}

// 3.3: a SUM that is 0 must be there, too; and it may be of one byte, or of two.
func TestShortSum(t *testing.T) {
	none, short := 0, 0
	for n := range 30_000 {
		m := right()
		m.Consts[0].N = n
		b, inner := Encode(m), open(m)
		if len(b) == len(inner)+1 {
			short++
			wantDecode(t, "a short SUM", b, api.OK, noPlace)
			wantDecode(t, "without the short SUM", inner, api.ErrForm, noPlace)
			if b[len(b)-1] == 0 {
				none++
			}
		}
	}
	if none == 0 || short == none {
		t.Errorf("%d SUMs of 0, %d of one byte: too few", none, short)
	}
}

// 3.3, the whole, 2: one byte that turned is seen, and so are bytes that are put in or taken out.
func TestTurned(t *testing.T) {
	whole := Encode(right())
	for at := range whole {
		for turn := 1; turn < 256; turn++ {
			b := slices.Clone(whole)
			b[at] ^= byte(turn)
			wantDecode(t, fmt.Sprint("byte ", at, " turned by ", turn), b, api.ErrForm, noPlace)
		}
		wantDecode(t, fmt.Sprint("without byte ", at), slices.Delete(slices.Clone(whole), at, at+1), api.ErrForm, noPlace)
	}
}

// 3.3: nothing stands behind the SUM, or ahead of the first byte.
func TestMoreBytes(t *testing.T) {
	whole := Encode(right())
	for _, x := range []byte{0, 1, 127, 128, 255} {
		wantDecode(t, fmt.Sprint(x, " behind"), append(slices.Clone(whole), x), api.ErrForm, noPlace)
		wantDecode(t, fmt.Sprint(x, " behind, with a SUM"), sealed(append(slices.Clone(whole), x)), api.ErrForm, noPlace)
		wantDecode(t, fmt.Sprint(x, " ahead of the SUM"), sealed(append(slices.Clone(open(right())), x)), api.ErrForm, noPlace)
		wantDecode(t, fmt.Sprint(x, " ahead"), append([]byte{x}, whole...), api.ErrForm, noPlace)
	}
	wantDecode(t, "twice", append(slices.Clone(whole), whole...), api.ErrForm, noPlace)
}

// 3.3: the SUM is this number, in no more bytes than it needs.
func TestWrongSum(t *testing.T) {
	inner := open(right())
	const sum = 6082
	with := func(n int64) []byte { return binary.AppendVarint(slices.Clone(inner), n) }
	wantDecode(t, "the SUM", with(sum), api.OK, noPlace)
	for _, n := range []int64{0, 1, -1, sum - 1, sum + 1, -sum, -sum - 1, sum + 8191, sum - 8191, sum + 8192, sum << 32, least, greatest} {
		wantDecode(t, fmt.Sprint("SUM ", n), with(n), api.ErrForm, noPlace)
	}
	long := with(sum)
	long[len(long)-1] |= 128
	wantDecode(t, "the SUM in a byte more", append(long, 0), api.ErrForm, noPlace)
	wantDecode(t, "the SUM in two bytes more", append(long, 128, 0), api.ErrForm, noPlace)
	wantDecode(t, "the SUM without an end", long, api.ErrForm, noPlace)
	for _, head := range []string{"RWNE", "rwnd", "RWN", "", "\x00\x00\x00\x00"} {
		wantDecode(t, head, sealed(append([]byte(head), inner[4:]...)), api.ErrForm, noPlace)
	}
}

// 3.3: each number is in as few bytes as it needs.
func TestLongNumbers(t *testing.T) {
	l := parts(right())
	for at, p := range l {
		if p.kind == bytesOfText {
			continue
		}
		last := len(p.bytes) - 1
		for _, more := range []string{"\x00", "\x80\x00", "\x80\x80\x80\x80\x80\x80\x80\x80\x00", strings.Repeat("\x80", 20) + "\x00", strings.Repeat("\x80", 62) + "\x01"} {
			long := append(slices.Clone(p.bytes), more...)
			long[last] |= 128
			wantDecode(t, fmt.Sprintf("part %d as %x", at, long), sealed(joined(changed(l, at, long))), api.ErrForm, noPlace)
		}
	}
}

// 3.3: no number has more than 64 bits.
func TestGreatNumbers(t *testing.T) {
	l := parts(right())
	const at = 3 // the number of constant 0
	for _, c := range []struct {
		end string
		n   int
		err api.Errno
	}{
		{"\x01", least, api.OK},
		{"\x00", 0, api.ErrForm},
		{"\x02", 0, api.ErrForm},
		{"\x03", 0, api.ErrForm},
		{"\x7f", 0, api.ErrForm},
		{"\x81\x00", 0, api.ErrForm},
		{"\x81\x01", 0, api.ErrForm},
		{"\xff", 0, api.ErrForm},
	} {
		b := sealed(joined(changed(l, at, []byte(strings.Repeat("\xff", 9)+c.end))))
		wantDecode(t, fmt.Sprintf("nine bytes and %x", c.end), b, c.err, noPlace)
		if m, _ := Decode(b); m != nil && m.Consts[0].N != c.n {
			t.Errorf("nine bytes and %x: %d, want %d", c.end, m.Consts[0].N, c.n)
		}
	}
}

// 3.3: whether a constant is a text, and a variable in a box, is told by 1 or 0.
func TestWrongTruths(t *testing.T) {
	l := parts(right())
	found := 0
	for at, p := range l {
		if p.kind != aTruth {
			continue
		}
		found++
		for _, n := range []int64{2, 3, -1, -2, 64, 256, 1 << 32, least, greatest} {
			b := sealed(joined(changed(l, at, binary.AppendVarint(nil, n))))
			wantDecode(t, fmt.Sprint("part ", at, " is ", n), b, api.ErrForm, noPlace)
		}
	}
	if found != 5 {
		t.Errorf("%d truths", found)
	}
}

// 3.3: there are never fewer than none of a list, or of a text's bytes, nor more than bytes are left.
func TestWrongCounts(t *testing.T) {
	l := parts(right())
	for at, p := range l {
		if p.kind != aCount {
			continue
		}
		many, _ := binary.Varint(p.bytes)
		for _, n := range []int64{-1, -many - 1, 1000, 1 << 31, 1 << 62, least, greatest} {
			b := sealed(joined(changed(l, at, binary.AppendVarint(nil, n))))
			wantDecode(t, fmt.Sprint("part ", at, ": ", n, " for ", many), b, api.ErrForm, noPlace)
		}
	}
}

// 3.3: 100,000 bytes are read, and no more, whatever they are.
func TestMostBytes(t *testing.T) {
	fill := func(all int) []byte {
		m := right()
		m.Consts[1].S = strings.Repeat("x", 99_000)
		m.Consts[1].S = strings.Repeat("x", 99_000+all-len(Encode(m)))
		b := Encode(m)
		if len(b) != all {
			t.Fatalf("%d bytes, want %d", len(b), all)
		}
		return b
	}
	for _, all := range []int{99_999, 100_000} {
		b := fill(all)
		wantDecode(t, fmt.Sprint(all, " bytes"), b, api.OK, noPlace)
		b[50_000]++
		wantDecode(t, fmt.Sprint(all, " bytes, one wrong"), b, api.ErrForm, noPlace)
	}
	wantDecode(t, "100,001 bytes", fill(100_001), api.ErrLimit, noPlace)
	for _, all := range []int{100_001, 1_000_000} {
		wantDecode(t, "noughts", make([]byte, all), api.ErrLimit, noPlace)
	}
	wantDecode(t, "100,000 noughts", make([]byte, 100_000), api.ErrForm, noPlace)
}
