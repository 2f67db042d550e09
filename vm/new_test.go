package vm

import (
	"reflect"
	"slices"
	"testing"

	"rewind/api"
	"rewind/code"
)

// 6.1: what may not be is told: of the image, then of the room, then of Collect and of the inputs.
func TestNewErrors(t *testing.T) {
	right := byHand(function(0, 0, "Nil;Return"))
	wrong := byHand(function(0, 0, "Nil;Return"), function(0, 0, "Nil"))
	many := make([]int, api.MaxInputs+1)
	for what, c := range map[string]struct {
		image  *code.Image
		config Config
		inputs []int
		err    api.Errno
		place  int
	}{
		"no image":                 {nil, Config{1, 1, nil}, nil, api.ErrMissing, -1},
		"no image, no room":        {nil, Config{0, 0, []int{7}}, many, api.ErrMissing, -1},
		"no functions":             {&code.Image{}, Config{1, 1, nil}, nil, api.ErrLimit, -1},
		"a wrong function":         {wrong, Config{1, 1, nil}, nil, api.ErrForm, 1},
		"a wrong one, no room":     {wrong, Config{0, 0, []int{3}}, many, api.ErrForm, 1},
		"no nursery":               {right, Config{0, 1, nil}, nil, api.ErrRange, -1},
		"a nursery below none":     {right, Config{-1, 1, nil}, nil, api.ErrRange, -1},
		"a nursery that is great":  {right, Config{65_537, 1, nil}, nil, api.ErrRange, -1},
		"no old part":              {right, Config{1, 0, nil}, nil, api.ErrRange, -1},
		"an old part, below none":  {right, Config{1, least, nil}, nil, api.ErrRange, -1},
		"an old part, great":       {right, Config{1, 1_048_577, nil}, nil, api.ErrRange, -1},
		"Collect below 0":          {right, Config{1, 1, []int{-1}}, nil, api.ErrRange, -1},
		"Collect above 2":          {right, Config{1, 1, []int{3}}, nil, api.ErrRange, -1},
		"the last one of Collect":  {right, Config{1, 1, []int{0, 1, 2, 3}}, nil, api.ErrRange, -1},
		"the first one of Collect": {right, Config{1, 1, []int{greatest, 1, 2, 0}}, nil, api.ErrRange, -1},
		"too many inputs":          {right, Config{1, 1, nil}, many, api.ErrRange, -1},
	} {
		x, err := New(c.image, c.config, c.inputs)
		if x != nil || api.Tell(err) != c.err || place(err) != c.place {
			t.Errorf("%s: %v, error %d at %d, want %d at %d", what, x, api.Tell(err), place(err), c.err, c.place)
		}
	}
}

// 6.1: all that may be, to the edges, is a machine at the beginning.
func TestNew(t *testing.T) {
	image := byHand(function(0, 3, "Nil;Return"), function(1, 2, "Nil;Return"))
	inputs := make([]int, api.MaxInputs)
	inputs[0], inputs[99] = least, greatest
	for _, c := range []Config{
		{1, 1, nil}, {65_536, 1_048_576, nil}, {1, 1_048_576, []int{}}, {65_536, 1, []int{0}},
		{5, 5, []int{0, 1, 2, 2, 1, 0}}, {5, 5, make([]int, 5000)},
	} {
		x := started(t, image, c, inputs...)
		if x.Ended() || x.Full() || x.Count() != 0 {
			t.Errorf("%v: ended %v, full %v, behind %d events", c, x.Ended(), x.Full(), x.Count())
		}
		s := x.State()
		if len(s.Frames) != 1 || !slices.Equal(s.Inputs, inputs) || s.Events != 0 || s.Stops != 0 || s.Ended {
			t.Errorf("%v: %+v", c, s)
		}
		f := s.Frames[0]
		if f.Func != 0 || f.At != 0 || f.Line != 0 || len(f.Slots) != 3 || len(f.Stack) != 0 || f.Holds.Kind != 0 || f.Makes.Kind != 0 {
			t.Errorf("%v: %+v", c, f)
		}
		if n, o, i, j := x.Heap().Use(); n+o+i+j+x.Heap().Last() != 0 {
			t.Errorf("%v: the heap has something", c)
		}
		if got := told(rest(x)...); got != "D" {
			t.Errorf("%v: %s", c, got)
		}
	}
}

// sample is a program that asks for inputs, makes objects of all kinds, throws, catches, calls, and ends.
const sample = `class A { field p; field q; init(x) { this.p = x; } get() { return this.p; } }
class B < A { get() { return [super.get(), input()]; } }
fn f(n) { if (n == 0) { throw [n, input()]; } return f(n - 1); }
var l = [];
var i = 0;
while (i < 4) { var j = i; l = l + [fn() { j = j + 1; return [j, new B(l)]; }]; i = i + 1; }
try { f(3); } catch (e) { print(e); print(e[1]); print(l[1]()); print(l[1]()[0]); }
var b = new B("x");
b.q = b;
print(b.get()); print(b.q.get()[1]); print(len(l)); print(input()); print(l[3]()[1]);
print(b.q == b);
b.nothing = 1;
`

// P4: nothing that is handed in is written into, and none of it is kept: what it is later makes no difference.
func TestNewKeepsNothing(t *testing.T) {
	want := told(rest(doing(t, sample, Config{70, 5000, []int{1, 0, 2}}, 5, 6, 7, 8))...)
	image, again := compiled(t, sample), compiled(t, sample)
	inputs, collect := []int{5, 6, 7, 8, 9}, []int{1, 0, 2, 1}
	x := started(t, image, Config{70, 5000, collect[:3]}, inputs[:4]...)
	copied := x.Copy()
	first := told(rest(x)...)
	if first != want || !reflect.DeepEqual(image, again) || !slices.Equal(inputs, []int{5, 6, 7, 8, 9}) || !slices.Equal(collect, []int{1, 0, 2, 1}) {
		t.Errorf("%s, want %s; or something was written into", first, want)
	}
	clear(inputs)
	collect[0], collect[1], collect[2] = 2, 2, 2
	for i := range image.Funcs {
		f := &image.Funcs[i]
		clear(f.Code)
		clear(f.Handlers)
		clear(f.Vars)
		*f = code.Func{}
	}
	for i := range image.Classes {
		c := &image.Classes[i]
		clear(c.Fields)
		clear(c.Names)
		clear(c.Methods)
		*c = code.Class{}
	}
	clear(image.Consts)
	if got := told(rest(copied)...); got != want {
		t.Errorf("%s, want %s", got, want)
	}
	if _, _, minors, majors := copied.Heap().Use(); minors < majors || majors == 0 {
		t.Errorf("%d Minors, %d Majors", minors, majors)
	}
	if !reflect.DeepEqual(x.Image(), again) {
		t.Error("the machine's image is another one")
	}
}
