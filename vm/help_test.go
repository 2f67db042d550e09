package vm

import (
	"errors"
	"fmt"
	"math"
	"strings"
	"testing"

	"rewind/api"
	"rewind/code"
	"rewind/compile"
	"rewind/heap"
	"rewind/syntax"
)

const (
	least    = math.MinInt
	greatest = math.MaxInt
)

// roomy is a room in which none of these tests' machines has to collect.
func roomy(collect ...int) Config {
	return Config{Nursery: 65_536, Old: 1_048_576, Collect: collect}
}

// compiled is the image of a program with which nothing is wrong.
func compiled(t *testing.T, text string) *code.Image {
	t.Helper()
	n, err := syntax.Parse(text)
	if err != nil {
		t.Fatalf("%.300q: no program: error %d", text, api.Tell(err))
	}
	m, err := compile.Compile(n)
	if err != nil {
		t.Fatalf("%.300q: no image: error %d", text, api.Tell(err))
	}
	return m
}

// started is a machine that must be.
func started(t *testing.T, m *code.Image, c Config, inputs ...int) *Machine {
	t.Helper()
	x, err := New(m, c, inputs)
	if x == nil || err != nil {
		t.Fatalf("no machine: %v", err)
	}
	return x
}

// doing is a machine that runs a program.
func doing(t *testing.T, text string, c Config, inputs ...int) *Machine {
	t.Helper()
	return started(t, compiled(t, text), c, inputs...)
}

// rest are the events up to the end; behind each of them something is asked, if it is there.
func rest(x *Machine, asked ...func(api.Event)) (l []api.Event) {
	for {
		e, ok := x.Next()
		if !ok {
			return l
		}
		l = append(l, e)
		for _, ask := range asked {
			ask(e)
		}
	}
}

// told are events as a text: S, C with a line; O, X with a text; T with both; D.
func told(l ...api.Event) string {
	var out []string
	for _, e := range l {
		s := string("?SOTCDX"[e.Kind])
		if e.Line != 0 || e.Kind == api.Thrown {
			s += fmt.Sprint(e.Line)
		}
		if e.Kind == api.Out || e.Kind == api.Thrown || e.Kind == api.Dead || e.Text != "" {
			s += ":" + e.Text
		}
		out = append(out, s)
	}
	return strings.Join(out, " ")
}

// wantEnd: how a machine must have come to its end; it stays there.
func wantEnd(t *testing.T, what string, x *Machine, count int, full bool) {
	t.Helper()
	for range 3 {
		if x.Count() != count || !x.Ended() || x.Full() != full || x.State().Ended != true || x.State().Events != count {
			t.Errorf("%.300s: behind %d events, ended %v, full %v, want %d, full %v", what, x.Count(), x.Ended(), x.Full(), count, full)
		}
		if e, ok := x.Next(); ok || e != (api.Event{}) {
			t.Errorf("%.300s: it goes on by %v", what, e)
		}
	}
}

// does: a program, and the events that it must have.
type does struct{ text, want string }

func checkDoes(t *testing.T, l []does) {
	t.Helper()
	for _, c := range l {
		for _, room := range []Config{roomy(), roomy(1), roomy(2), {Nursery: 60, Old: 60_000, Collect: []int{0, 2, 1}}} {
			x := doing(t, c.text, room)
			events := rest(x)
			if got := told(events...); got != c.want {
				t.Errorf("%.300q, %v:\n%s, want\n%s", c.text, room, got, c.want)
			}
			wantEnd(t, c.text, x, len(events), false)
		}
	}
}

// operations are the names of code's operations, as they stand there.
const operations = "Stop Push Nil True False Load Store Box LoadBox StoreBox Cap LoadCap StoreCap Pop Jump Unless IfTrue IfFalse Truth Neg Not Same Less Add Sub Mul Div Mod List Elem SetElem Get SetGet Send Super New Call CallFn Closure Return Throw Print Input Len Caught"

// body is code from its text: instructions with ; between, each an operation, and A and B, if they are not 0.
func body(text string) (l []code.Instr) {
	for _, part := range strings.Split(text, ";") {
		var i code.Instr
		name := ""
		fmt.Sscan(part, &name, &i.A, &i.B)
		for number, known := range strings.Fields(operations) {
			if known == name {
				i.Op = code.Stop + number
			}
		}
		l = append(l, i)
	}
	return l
}

// function is one of an image.
func function(params, slots int, text string) code.Func {
	return code.Func{Name: "f", Params: params, Slots: slots, Code: body(text)}
}

// Constants of images that are made by hand.
const (
	numberSeven = iota
	textInit
	textM
	textP
	numberZero
)

// byHand is an image of such functions, with two classes: K has a field p, and M, which is under it, a method m, function 1, if there is one.
func byHand(funcs ...code.Func) *code.Image {
	m := &code.Image{
		Funcs:  funcs,
		Consts: []code.Const{{N: 7}, {Text: true, S: "init"}, {Text: true, S: "m"}, {Text: true, S: "p"}, {N: 0}},
		Classes: []code.Class{
			{Name: "K", Above: -1, Fields: []string{"p"}},
			{Name: "M", Above: 0, Fields: []string{"p"}},
		},
	}
	if len(funcs) > 1 {
		m.Classes[1].Names, m.Classes[1].Methods = []string{"m"}, []int{1}
	}
	return m
}

// wantDoes: what an image must do, with any room that is enough.
func wantDoes(t *testing.T, what string, m *code.Image, want string) {
	t.Helper()
	if err := code.Check(m); err != nil {
		t.Fatalf("%s: error %d at %v: no image that may be run", what, api.Tell(err), err)
	}
	for _, room := range []Config{roomy(), roomy(1), roomy(2), {Nursery: 60, Old: 60_000, Collect: []int{1, 2, 0}}} {
		if got := told(rest(started(t, m, room))...); got != want {
			t.Errorf("%s, %v: %.300s, want %s", what, room, got, want)
		}
	}
}

// place is that of an error that is an At (-1: it is none).
func place(err error) int {
	var at *api.At
	if errors.As(err, &at) {
		return at.Place
	}
	return -1
}

// die: numbers that look drawn, the same each time.
type die uint64

func (d *die) n(most int) int {
	*d = *d*6364136223846793005 + 1442695040888963407
	return int(uint64(*d>>33) % uint64(most))
}

func ref(a int) heap.Value { return heap.Value{Kind: heap.Ref, N: a} }
