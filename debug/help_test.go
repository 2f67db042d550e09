package debug

import (
	"errors"
	"fmt"
	"strings"
	"testing"

	"rewind/api"
	"rewind/code"
	"rewind/compile"
	"rewind/heap"
	"rewind/replay"
	"rewind/syntax"
	"rewind/vm"
)

// tight is a room with the least nursery in which each object has its place.
func tight(collect ...int) vm.Config {
	return vm.Config{Nursery: 60, Old: 60_000, Collect: collect}
}

// compiled is the image of a program with which nothing is wrong.
func compiled(t *testing.T, text string) *code.Image {
	t.Helper()
	n, err := syntax.Parse(text)
	if err != nil {
		t.Fatalf("%.300q: no program: error %d", text, api.Tell(err))
	}
	m, err := compile.Compile(n)
	if err != nil {
		t.Fatalf("%.300q: no image: error %d", text, api.Tell(err))
	}
	return m
}

// byHand is an image of one function with a slot, and the number 7.
func byHand(l ...code.Instr) *code.Image {
	return &code.Image{Consts: []code.Const{{N: 7}}, Funcs: []code.Func{{Name: "main", Slots: 1, Code: l}}}
}

// run is one that may be recorded.
type run struct {
	image  *code.Image
	config vm.Config
	inputs []int
}

// runOf is that of a program, in a room that is enough.
func runOf(t *testing.T, text string, inputs ...int) run {
	t.Helper()
	return run{compiled(t, text), tight(0, 1, 2), inputs}
}

// recorded is a recording that must be.
func (u run) recorded(t *testing.T, every int) *replay.Recording {
	t.Helper()
	r, err := replay.Record(u.image, u.config, u.inputs, every)
	if r == nil || err != nil {
		t.Fatalf("no recording: %v", err)
	}
	return r
}

// debugger is one of a new recording.
func (u run) debugger(t *testing.T, every int) *Debugger {
	t.Helper()
	return made(t, u.recorded(t, every))
}

// gone is a machine that ran behind so many events without stopping.
func (u run) gone(t *testing.T, n int) *vm.Machine {
	t.Helper()
	x, err := vm.New(u.image, u.config, u.inputs)
	if err != nil {
		t.Fatalf("no machine: %v", err)
	}
	for range n {
		if _, ok := x.Next(); !ok {
			t.Fatalf("it is over behind %d events, not %d", x.Count(), n)
		}
	}
	return x
}

// events are those of a machine that ran to its end.
func (u run) events(t *testing.T) (l []api.Event) {
	t.Helper()
	return rest(u.gone(t, 0))
}

// rest are the events up to the end.
func rest(x *vm.Machine) (l []api.Event) {
	for {
		e, ok := x.Next()
		if !ok {
			return l
		}
		l = append(l, e)
	}
}

// made is a debugger that must be.
func made(t *testing.T, r *replay.Recording) *Debugger {
	t.Helper()
	d, err := New(r)
	if d == nil || err != nil {
		t.Fatalf("no debugger: %v", err)
	}
	return d
}

// stand goes behind so many events, which must be.
func stand(t *testing.T, d *Debugger, n int) {
	t.Helper()
	if err := d.Goto(n); err != nil {
		t.Fatalf("Goto %d: error %d", n, api.Tell(err))
	}
}

// wantWhere holds where a debugger stands against where it must.
func wantWhere(t *testing.T, what string, d *Debugger, n int, last api.Event) {
	t.Helper()
	if at, e := d.Where(); at != n || e != last {
		t.Errorf("%s: it stands behind %d events, the last one %s; want %d, %s", what, at, told(e), n, told(last))
	}
}

// wantError: an error must be that, without a place.
func wantError(t *testing.T, what string, err error, want api.Errno) {
	t.Helper()
	if api.Tell(err) != want || place(err) != -1 {
		t.Errorf("%s: error %d at %d, want %d", what, api.Tell(err), place(err), want)
	}
}

// last is the last one of so many events.
func last(l []api.Event, n int) api.Event {
	if n == 0 {
		return api.Event{}
	}
	return l[n-1]
}

// told are events as a text: S, C with a line; O, X with a text; T with both; D; - is none.
func told(l ...api.Event) string {
	var out []string
	for _, e := range l {
		s := string("-SOTCDX"[e.Kind])
		if e.Line != 0 {
			s += fmt.Sprint(e.Line)
		}
		if e.Text != "" {
			s += ":" + e.Text
		}
		out = append(out, s)
	}
	return strings.Join(out, " ")
}

// place is that of an error that is an At (-1: it is none).
func place(err error) int {
	var at *api.At
	if errors.As(err, &at) {
		return at.Place
	}
	return -1
}

// whole is all that can be asked of a machine, where its objects lie, too.
func whole(x *vm.Machine) string {
	h := x.Heap()
	nursery, old, minors, majors := h.Use()
	s := fmt.Sprintf("%+v %v %v %d %d %d %d %d %d\n", x.State(), x.Ended(), x.Full(), x.Count(), h.Last(), nursery, old, minors, majors)
	for _, id := range h.Ids() {
		a, _ := h.At(id)
		s += fmt.Sprint(id, a, h.Kind(a), h.Tag(a), h.Size(a), fields(h, a))
	}
	return s
}

func fields(h *heap.Heap, a int) (l []heap.Value) {
	for i := range h.Size(a) {
		v, _ := h.Get(a, i)
		l = append(l, v)
	}
	return l
}

// way is one of the eight, by its name.
type way struct {
	name string
	goes func(*Debugger) bool
}

func ways() []way {
	return []way{
		{"Step", (*Debugger).Step}, {"Back", (*Debugger).Back},
		{"Next", (*Debugger).Next}, {"Prev", (*Debugger).Prev},
		{"Finish", (*Debugger).Finish}, {"Came", (*Debugger).Came},
		{"Continue", (*Debugger).Continue}, {"Reverse", (*Debugger).Reverse},
	}
}

// row is where a way leads from each number of events, from none to all; ! is ahead, where it told false. What Where tells must be the last event there.
func row(t *testing.T, d *Debugger, events []api.Event, goes func(*Debugger) bool) string {
	t.Helper()
	var l []string
	for n := range len(events) + 1 {
		stand(t, d, n)
		s := ""
		if !goes(d) {
			s = "!"
		}
		at, e := d.Where()
		if e != last(events, at) {
			t.Errorf("behind %d events the last one is %s, want %s", at, told(e), told(last(events, at)))
		}
		l = append(l, s+fmt.Sprint(at))
	}
	return strings.Join(l, " ")
}

// die: numbers that look drawn, the same each time.
type die uint64

func (d *die) n(below int) int {
	*d = *d*6364136223846793005 + 1442695040888963407
	return int(uint64(*d>>33) % uint64(below))
}
