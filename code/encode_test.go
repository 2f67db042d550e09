package code

import (
	"bytes"
	"encoding/hex"
	"strings"
	"testing"

	"rewind/api"
)

// wantBytes: what Encode must write, told in hexadecimal digits.
func wantBytes(t *testing.T, what string, m *Image, want string) {
	t.Helper()
	if got := hex.EncodeToString(Encode(m)); got != strings.ReplaceAll(want, " ", "") {
		t.Errorf("%s: %s, want %s", what, got, want)
	}
}

// 3.3: the bytes of images, one by one.
func TestBytes(t *testing.T) {
	wantBytes(t, "nil", nil, "")
	wantBytes(t, "nothing", &Image{}, "52574e44 00 00 00 8442")
	wantBytes(t, "empty lists", &Image{Funcs: []Func{}, Consts: []Const{}, Classes: []Class{}}, "52574e44 00 00 00 8442")
	wantBytes(t, "the least", &Image{Funcs: []Func{{Code: []Instr{{Op: Jump}}}}}, "52574e44 00 00 02 00 00 00 02 1e0000 00 00 d277")
	wantBytes(t, "right", right(), "52574e44"+
		"06 0009 020261 0200"+
		"04 064c6f77 02 04 0278 0279 02 026104"+
		"0848696768 01 02 0278 04 026102 08696e697404"+
		"06 086d61696e 00 08 16 020200 040000 100200 020400 120200 540000 060000 500000 5a0600 0e0400 1e0c00"+
		"02 000c10 04 027602061002 026504141600"+
		"0674776f 04 04 04 060000 500000 00 00"+
		"086e6f6e65 00 00 04 060000 500000 00 00"+
		"845f")
}

// 3.3: a number: as few bytes as it needs, below 0 and at both ends, too.
func TestNumberBytes(t *testing.T) {
	for _, c := range []struct {
		n    int
		want string
	}{
		{0, "00"}, {-1, "01"}, {1, "02"}, {-2, "03"}, {63, "7e"}, {-64, "7f"}, {64, "8001"}, {-65, "8101"},
		{8191, "fe7f"}, {-8192, "ff7f"}, {8192, "808001"}, {1 << 40, "808080808040"},
		{greatest, "feffffffffffffffff01"}, {greatest - 1, "fcffffffffffffffff01"}, {least, "ffffffffffffffffff01"}, {least + 1, "fdffffffffffffffff01"},
	} {
		m := around(Instr{Op: Jump})
		m.Consts = append(m.Consts, Const{N: c.n})
		ahead := "52574e44 08 0009 020261 0200 00" + c.want
		if got := hex.EncodeToString(Encode(m)); !strings.HasPrefix(got, strings.ReplaceAll(ahead, " ", "")) {
			t.Errorf("%d: %s, want ahead %s", c.n, got, ahead)
		}
		if back, err := Decode(Encode(m)); err != nil || back.Consts[3] != (Const{N: c.n}) {
			t.Errorf("%d: error %d, %v", c.n, api.Tell(err), back)
		}
	}
}

// 3.3: each number and text of an image is in its bytes, in its place: what differs in one has other bytes, and comes back.
func TestEachIsTold(t *testing.T) {
	for i, change := range []func(m *Image){
		func(m *Image) { m.Consts[0].N++ },
		func(m *Image) { m.Consts[1].S = "z" },
		func(m *Image) { m.Consts[0] = Const{Text: true} },
		func(m *Image) { m.Consts = append(m.Consts, Const{}) },
		func(m *Image) { m.Classes[0].Name = "" },
		func(m *Image) { m.Classes[0].Above = -1 },
		func(m *Image) { m.Classes[0].Fields[1] = "x" },
		func(m *Image) { m.Classes[1].Fields = nil },
		func(m *Image) { m.Classes[1].Names[1] = "b" },
		func(m *Image) { m.Classes[1].Methods[0] = 2 },
		func(m *Image) { m.Classes[1].Names, m.Classes[1].Methods = nil, nil },
		func(m *Image) { m.Funcs[0].Name = "\x00\xff\n" },
		func(m *Image) { m.Funcs[1].Params = 1 },
		func(m *Image) { m.Funcs[1].Slots = 200 },
		func(m *Image) { m.Funcs[0].Code[5].Op = Pop },
		func(m *Image) { m.Funcs[0].Code[0].A = least },
		func(m *Image) { m.Funcs[0].Code[0].B = greatest },
		func(m *Image) { m.Funcs[0].Handlers[0].From = 1 },
		func(m *Image) { m.Funcs[0].Handlers[0].To = 11 },
		func(m *Image) { m.Funcs[0].Handlers[0].Target = 9 },
		func(m *Image) { m.Funcs[0].Handlers = nil },
		func(m *Image) { m.Funcs[0].Vars[0].Name = strings.Repeat("long", 1000) },
		func(m *Image) { m.Funcs[0].Vars[0].Slot = 0 },
		func(m *Image) { m.Funcs[0].Vars[0].From = 0 },
		func(m *Image) { m.Funcs[0].Vars[0].To = 9 },
		func(m *Image) { m.Funcs[0].Vars[0].Boxed = false },
		func(m *Image) { m.Funcs[0].Vars = nil },
	} {
		m := right()
		change(m)
		b := Encode(m)
		if same(m, right()) || bytes.Equal(b, Encode(right())) {
			t.Errorf("change %d is not in the bytes", i)
		}
		if back, err := Decode(b); err != nil || !same(back, m) {
			t.Errorf("change %d: error %d at %d, %v, want %v", i, api.Tell(err), place(err), back, m)
		}
	}
}

// 3.3: of a constant only what it is is told: its text, or its number.
func TestConstantBytes(t *testing.T) {
	m := right()
	m.Consts[0].S, m.Consts[1].N = "not told", 77
	if !bytes.Equal(Encode(m), Encode(right())) {
		t.Error("what a constant is not is in the bytes")
	}
	if back, err := Decode(Encode(m)); err != nil || !same(back, right()) {
		t.Errorf("error %d, %v", api.Tell(err), back)
	}
}

// P1: images that may not be run have bytes, too; where methods are wanting, or too many, as many are told as there are names.
func TestWrongImageBytes(t *testing.T) {
	for _, m := range []*Image{
		{Classes: []Class{{Above: least, Names: []string{"a", "b"}, Methods: []int{7}}}},
		{Classes: []Class{{Above: least, Names: []string{"a", "b"}, Methods: []int{7, 0, 9}}}},
	} {
		whole := &Image{Classes: []Class{{Above: least, Names: []string{"a", "b"}, Methods: []int{7, 0}}}}
		if !bytes.Equal(Encode(m), Encode(whole)) {
			t.Errorf("%v: %x, want %x", m, Encode(m), Encode(whole))
		}
	}
	m := &Image{Funcs: []Func{{Params: least, Slots: greatest, Code: []Instr{{least, -1, greatest}}, Handlers: []Handler{{9, 8, -7}}, Vars: []Var{{Slot: -1, From: 3, To: 2}}}}}
	wantDecode(t, "a wrong function", Encode(m), api.ErrLimit, 0)
}
