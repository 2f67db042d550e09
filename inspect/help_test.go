package inspect

import (
	"errors"
	"fmt"
	"strings"
	"testing"

	"rewind/api"
	"rewind/code"
	"rewind/compile"
	"rewind/syntax"
	"rewind/vm"
)

// roomy is a room in which none of these tests' machines has to collect.
func roomy(collect ...int) vm.Config {
	return vm.Config{Nursery: 65_536, Old: 1_048_576, Collect: collect}
}

// tight is a room with the least nursery in which each object has its place.
func tight(collect ...int) vm.Config {
	return vm.Config{Nursery: 60, Old: 60_000, Collect: collect}
}

// parsed is a program that must be one.
func parsed(t *testing.T, text string) *api.Node {
	t.Helper()
	n, err := syntax.Parse(text)
	if err != nil {
		t.Fatalf("%.300q: no program: error %d", text, api.Tell(err))
	}
	return n
}

// compiled is the image of a program with which nothing is wrong.
func compiled(t *testing.T, text string) *code.Image {
	t.Helper()
	m, err := compile.Compile(parsed(t, text))
	if err != nil {
		t.Fatalf("%.300q: no image: error %d", text, api.Tell(err))
	}
	return m
}

// started is a machine that must be, behind no event.
func started(t *testing.T, m *code.Image, c vm.Config, inputs ...int) *vm.Machine {
	t.Helper()
	x, err := vm.New(m, c, inputs)
	if x == nil || err != nil {
		t.Fatalf("no machine: %v", err)
	}
	return x
}

// ended is a machine that ran until it was over.
func ended(t *testing.T, m *code.Image, c vm.Config, inputs ...int) *vm.Machine {
	t.Helper()
	x := started(t, m, c, inputs...)
	for {
		if _, ok := x.Next(); !ok {
			return x
		}
	}
}

// event is one as a text: S, C with a line; O, X with a text; T with both; D.
func event(e api.Event) string {
	s := string("?SOTCDX"[e.Kind])
	if e.Line != 0 {
		s += fmt.Sprint(e.Line)
	}
	if e.Text != "" {
		s += ":" + e.Text
	}
	return s
}

// place is that of an error that is an At (-1: it is none).
func place(err error) int {
	var at *api.At
	if errors.As(err, &at) {
		return at.Place
	}
	return -1
}

// vars are variables, fields or elements as a text.
func vars(list []Var) string {
	var l []string
	for _, v := range list {
		l = append(l, v.Name+" "+v.Is)
	}
	return strings.Join(l, ", ")
}

// frames are functions as a text: the name, the line, and the variables of each.
func frames(list []Frame) string {
	var l []string
	for _, f := range list {
		l = append(l, fmt.Sprint(f.Func, " ", f.Line, ": ", vars(f.Vars)))
	}
	return strings.Join(l, "; ")
}

// objects are such as a text: what each is, and what it has. Its identity must be that which is shown.
func objects(t *testing.T, list []Object) string {
	t.Helper()
	var l []string
	for _, o := range list {
		if !strings.HasSuffix(o.Is, fmt.Sprint("#", o.Id)) || o.Id < 1 {
			t.Errorf("%s has the identity %d", o.Is, o.Id)
		}
		l = append(l, o.Is+": "+vars(o.Has))
	}
	return strings.Join(l, "; ")
}

// framesOf and objectsOf are what a machine is asked for, which must tell no error.
func framesOf(t *testing.T, x *vm.Machine) string {
	t.Helper()
	l, err := Frames(x)
	if err != nil {
		t.Errorf("Frames: error %d", api.Tell(err))
	}
	return frames(l)
}

func objectsOf(t *testing.T, x *vm.Machine) string {
	t.Helper()
	l, err := Objects(x)
	if err != nil {
		t.Errorf("Objects: error %d", api.Tell(err))
	}
	return objects(t, l)
}

// sight is what there is behind an event (- is none), as texts.
type sight struct{ event, frames, objects string }

// sights are those of a machine from where it is to its end.
func sights(t *testing.T, x *vm.Machine) (l []sight) {
	t.Helper()
	l = append(l, sight{"-", framesOf(t, x), objectsOf(t, x)})
	for {
		e, ok := x.Next()
		if !ok {
			return l
		}
		l = append(l, sight{event(e), framesOf(t, x), objectsOf(t, x)})
	}
}

// seen: a program, and what there must be behind each event, from none on: a line each, the event, a blank, the functions.
type seen struct{ text, want string }

// framesLines are the functions behind each event.
func framesLines(l []sight) string {
	var out []string
	for _, s := range l {
		out = append(out, strings.TrimSpace(s.event+" "+s.frames))
	}
	return lines(out...)
}

// checkSeen holds the functions and variables of runs against what is asked, whenever the heap is collected. The walker must tell the same, since others are held against it.
func checkSeen(t *testing.T, l []seen) {
	t.Helper()
	for _, c := range l {
		if got := framesLines(walk(parsed(t, c.text))); got != c.want {
			t.Errorf("%s\nthe walker:\n%s\nwant\n%s", c.text, got, c.want)
		}
		for _, room := range []vm.Config{roomy(), tight(1), tight(0, 2, 1)} {
			if got := framesLines(sights(t, started(t, compiled(t, c.text), room))); got != c.want {
				t.Errorf("%s\nin %v:\n%s\nwant\n%s", c.text, room, got, c.want)
			}
		}
	}
}

// lines are texts, a line each.
func lines(l ...string) string { return strings.Join(l, "\n") }

// last: a program, and what there must be of its objects behind its last event but one, ahead of Done.
type last struct{ text, want string }

func checkLast(t *testing.T, l []last) {
	t.Helper()
	check := func(c last, who any, all []sight) {
		t.Helper()
		if end := all[len(all)-1]; end != (sight{event: "D"}) {
			t.Errorf("%s\n%v: the end is %v", c.text, who, end)
		}
		if got := all[len(all)-2].objects; got != c.want {
			t.Errorf("%s\n%v:\n%s\nwant\n%s", c.text, who, got, c.want)
		}
	}
	for _, c := range l {
		check(c, "the walker", walk(parsed(t, c.text)))
		for _, room := range []vm.Config{roomy(), tight(1), tight(2), tight(0, 2, 1)} {
			check(c, room, sights(t, started(t, compiled(t, c.text), room)))
		}
	}
}

// die: numbers that look drawn, the same each time.
type die uint64

func (d *die) n(below int) int {
	*d = *d*6364136223846793005 + 1442695040888963407
	return int(uint64(*d>>33) % uint64(below))
}
