package replay

import (
	"errors"
	"fmt"
	"strings"
	"testing"

	"rewind/api"
	"rewind/code"
	"rewind/compile"
	"rewind/heap"
	"rewind/syntax"
	"rewind/vm"
)

// roomy is a room in which none of these tests' machines has to collect.
func roomy(collect ...int) vm.Config {
	return vm.Config{Nursery: 65_536, Old: 1_048_576, Collect: collect}
}

// compiled is the image of a program with which nothing is wrong.
func compiled(t *testing.T, text string) *code.Image {
	t.Helper()
	n, err := syntax.Parse(text)
	if err != nil {
		t.Fatalf("%.300q: no program: error %d", text, api.Tell(err))
	}
	m, err := compile.Compile(n)
	if err != nil {
		t.Fatalf("%.300q: no image: error %d", text, api.Tell(err))
	}
	return m
}

// byHand is an image of one function with a slot, and the number 7.
func byHand(l ...code.Instr) *code.Image {
	return &code.Image{Consts: []code.Const{{N: 7}}, Funcs: []code.Func{{Name: "main", Slots: 1, Code: l}}}
}

// run is one that may be recorded.
type run struct {
	image  *code.Image
	config vm.Config
	inputs []int
}

// recorded is a recording that must be.
func (u run) recorded(t *testing.T, every int) *Recording {
	t.Helper()
	r, err := Record(u.image, u.config, u.inputs, every)
	if r == nil || err != nil {
		t.Fatalf("no recording: %v", err)
	}
	return r
}

// gone is a machine that ran behind so many events without stopping.
func (u run) gone(t *testing.T, n int) *vm.Machine {
	t.Helper()
	x, err := vm.New(u.image, u.config, u.inputs)
	if err != nil {
		t.Fatalf("no machine: %v", err)
	}
	for range n {
		if _, ok := x.Next(); !ok {
			t.Fatalf("it is over behind %d events, not %d", x.Count(), n)
		}
	}
	return x
}

// end are the events of a machine that ran to its end, and it.
func (u run) end(t *testing.T) ([]api.Event, *vm.Machine) {
	t.Helper()
	x := u.gone(t, 0)
	return rest(x), x
}

// at is a machine that must be there.
func at(t *testing.T, r *Recording, n int) *vm.Machine {
	t.Helper()
	x, err := r.At(n)
	if x == nil || err != nil {
		t.Fatalf("no machine behind %d events: %v", n, err)
	}
	return x
}

// rest are the events up to the end.
func rest(x *vm.Machine) (l []api.Event) {
	for {
		e, ok := x.Next()
		if !ok {
			return l
		}
		l = append(l, e)
	}
}

// told are events as a text: S, C with a line; O, X with a text; T with both; D.
func told(l ...api.Event) string {
	var out []string
	for _, e := range l {
		s := string("?SOTCDX"[e.Kind])
		if e.Line != 0 {
			s += fmt.Sprint(e.Line)
		}
		if e.Text != "" {
			s += ":" + e.Text
		}
		out = append(out, s)
	}
	return strings.Join(out, " ")
}

// place is that of an error that is an At (-1: it is none).
func place(err error) int {
	var at *api.At
	if errors.As(err, &at) {
		return at.Place
	}
	return -1
}

// looker tells what values of a machine are, and all objects to which they lead, each once.
type looker struct {
	*vm.Machine
	strings.Builder
	seen map[int]bool
	next []int
	// where: addresses are told, too.
	where bool
}

func (l *looker) value(v heap.Value) {
	fmt.Fprint(l, " ", v.Kind, l.Show(v))
	if l.where {
		fmt.Fprint(l, "@", v.N)
	}
	if v.Kind == heap.Ref && !l.seen[v.N] {
		l.seen[v.N] = true
		l.next = append(l.next, v.N)
	}
}

func (l *looker) values(list ...heap.Value) {
	for _, v := range list {
		l.value(v)
	}
	l.WriteString("\n")
}

func (l *looker) frames(s vm.State) {
	for _, f := range s.Frames {
		fmt.Fprintln(l, "frame", f.Func, f.At, f.Line)
		l.values(f.Slots...)
		l.values(f.Stack...)
		l.values(f.Holds, f.Makes)
	}
}

func (l *looker) objects(h *heap.Heap) {
	for ; len(l.next) > 0; l.next = l.next[1:] {
		a := l.next[0]
		fmt.Fprint(l, "object ", h.Kind(a), h.Tag(a), h.Id(a), h.Size(a))
		for i := range h.Size(a) {
			v, _ := h.Get(a, i)
			l.value(v)
		}
		l.WriteString("\n")
	}
}

// seen is what a program has of a machine: values, objects and identities, not where they lie, nor what is gone.
func seen(x *vm.Machine) string {
	l := &looker{Machine: x, seen: map[int]bool{}}
	l.look()
	return l.String()
}

func (l *looker) look() {
	s := l.State()
	fmt.Fprintln(l, s.Inputs, s.Events, s.Stops, s.Ended, l.Ended(), l.Full(), l.Count(), l.Heap().Last())
	l.frames(s)
	l.objects(l.Heap())
}

// whole is all that can be asked of a machine.
func whole(x *vm.Machine) string {
	l := &looker{Machine: x, seen: map[int]bool{}, where: true}
	l.look()
	h := x.Heap()
	nursery, old, minors, majors := h.Use()
	fmt.Fprintln(l, nursery, old, minors, majors, h.Ids())
	for _, id := range h.Ids() {
		a, ok := h.At(id)
		fmt.Fprintln(l, "identity", id, a, ok)
		l.value(heap.Value{Kind: heap.Ref, N: a})
	}
	l.objects(h)
	return l.String()
}

// die: numbers that look drawn, the same each time.
type die uint64

func (d *die) n(most int) int {
	*d = *d*6364136223846793005 + 1442695040888963407
	return int(uint64(*d>>33) % uint64(most))
}
