package inspect

import (
	"fmt"
	"slices"
	"strings"
	"testing"

	"rewind/api"
	"rewind/code"
	"rewind/compile"
	"rewind/replay"
	"rewind/syntax"
	"rewind/vm"
)

// drawn is a program, and its image; false: it came out too great.
func (d *drawer) drawn(t *testing.T) (string, *api.Node, *code.Image, bool) {
	t.Helper()
	text := d.program()
	n, err := syntax.Parse(text)
	if api.Tell(err) == api.ErrLimit {
		return text, nil, nil, false
	}
	if err != nil {
		t.Fatalf("%s\nno program: error %d at %d", text, api.Tell(err), place(err))
	}
	m, err := compile.Compile(n)
	if err != nil {
		t.Fatalf("%s\nno image: error %d at %d", text, api.Tell(err), place(err))
	}
	return text, n, m, true
}

// wantSights holds what was seen against what must be, event by event.
func wantSights(t *testing.T, what string, got, want []sight) {
	t.Helper()
	for i := range min(len(got), len(want)) {
		if got[i] != want[i] {
			t.Fatalf("%s\nbehind %d events:\n%+v, want\n%+v", what, i, got[i], want[i])
		}
	}
	if len(got) != len(want) {
		t.Fatalf("%s\n%d events, want %d", what, len(got)-1, len(want)-1)
	}
}

// 8.1, 8.2: of any program, behind each event, there is what the program has there, gone through node by node, whenever the heap is collected, and of machines that a Recording gave, too.
func TestAnyProgram(t *testing.T) {
	d := &drawer{die: 8}
	found := map[string]int{}
	for range 350 {
		text, n, m, ok := d.drawn(t)
		if !ok {
			found["too great"]++
			continue
		}
		inputs := []int{7, 0, -1}
		want := walk(n, inputs...)
		for _, c := range []vm.Config{roomy(), tight(1), {Nursery: 60 + d.n(60), Old: 60_000, Collect: []int{d.n(3), d.n(3), d.n(3)}}} {
			wantSights(t, fmt.Sprint(text, "\nin ", c), sights(t, started(t, m, c, inputs...)), want)
		}
		recorded(t, d, text, m, want)
		tally(found, want)
	}
	for _, what := range []string{"done", "dead", "over", "caught", "thrown", "out", "twice", "deep", "itself", "catches", "fn", "this"} {
		if found[what] < 10 {
			t.Errorf("%s: %d times: what is drawn does it too seldom", what, found[what])
		}
	}
	if found["too great"] > 50 {
		t.Errorf("%d programs are too great", found["too great"])
	}
}

// recorded looks at machines that a Recording gave, in any order.
func recorded(t *testing.T, d *drawer, text string, m *code.Image, want []sight) {
	t.Helper()
	r, err := replay.Record(m, tight(d.n(3), d.n(3)), []int{7, 0, -1}, 1+d.n(50))
	if err != nil {
		t.Fatalf("%s\nno recording: %v", text, err)
	}
	for range 4 {
		n := d.n(len(want))
		x, err := r.At(n)
		if err != nil {
			t.Fatalf("%s\nno machine behind %d events: %v", text, n, err)
		}
		if got := (sight{want[n].event, framesOf(t, x), objectsOf(t, x)}); got != want[n] {
			t.Fatalf("%s\nbehind %d events of a recording:\n%+v, want\n%+v", text, n, got, want[n])
		}
	}
}

// tally notes what came to be.
func tally(found map[string]int, l []sight) {
	names := map[byte]string{'S': "stop", 'O': "out", 'T': "thrown", 'C': "caught", 'D': "done", 'X': "dead"}
	for i, s := range l[1:] {
		found[names[s.event[0]]]++
		inner := s.frames[strings.LastIndex(s.frames, ";")+1:]
		note := func(what string, is bool) {
			if is {
				found[what]++
			}
		}
		note("twice", twice(inner))
		note("deep", strings.Count(s.frames, ";") > 3)
		note("itself", itself(s.objects))
		note("catches", s.event[0] == 'T' && l[i].frames != s.frames && s.frames != "" && strings.Contains(s.frames, ": a"))
		note("fn", strings.Contains(s.frames, "; fn "))
		note("this", strings.Contains(s.frames, "this "))
	}
	if len(l) == api.MaxEvents+1 && l[len(l)-1].event[0] == 'S' {
		found["over"]++
	}
}

// twice: has a function two variables of one name?
func twice(frame string) bool {
	_, vars, _ := strings.Cut(frame, ": ")
	var names []string
	for v := range strings.SplitSeq(vars, ", ") {
		name, _, _ := strings.Cut(v, " ")
		if slices.Contains(names, name) {
			return true
		}
		names = append(names, name)
	}
	return false
}

// itself: is there an object that leads to itself?
func itself(objects string) bool {
	for o := range strings.SplitSeq(objects, "; ") {
		name, has, _ := strings.Cut(o, ": ")
		if slices.ContainsFunc(strings.Split(has, ", "), func(s string) bool { return strings.HasSuffix(s, " "+name) }) {
			return true
		}
	}
	return false
}
