package many

import (
	"errors"
	"fmt"
	"slices"
	"strings"
	"testing"

	"rewind/api"
	"rewind/compile"
	"rewind/syntax"
	"rewind/vm"
)

// told are events as a text: S, C with a line; O, X with a text; T with both; D.
func told(l ...api.Event) string {
	var out []string
	for _, e := range l {
		s := string("-SOTCDX"[e.Kind])
		if e.Line != 0 {
			s += fmt.Sprint(e.Line)
		}
		if e.Text != "" {
			s += ":" + e.Text
		}
		out = append(out, s)
	}
	return strings.Join(out, " ")
}

// fault is an error, and its place, if it has one.
func fault(err error) string {
	var at *api.At
	if errors.As(err, &at) {
		return fmt.Sprintf("%d at %d", api.Tell(err), at.Place)
	}
	return fmt.Sprintf("%d", api.Tell(err))
}

// text is an answer as a whole.
func text(a Answer) string {
	return fmt.Sprintf("%s; full %v; error %s", told(a.Events...), a.Full, fault(a.Err))
}

// texts are answers, one behind the other.
func texts(l []Answer) (out []string) {
	for _, a := range l {
		out = append(out, text(a))
	}
	return out
}

// run is what a task must be answered, by a machine that nobody records.
func run(t Task) Answer { return runIn(t, 600, 60_000) }

// runIn is what it would be answered in another room.
func runIn(t Task, nursery, old int) Answer {
	n, err := syntax.Parse(t.Text)
	if err != nil {
		return Answer{Err: err}
	}
	image, err := compile.Compile(n)
	if err != nil {
		return Answer{Err: err}
	}
	m, err := vm.New(image, vm.Config{Nursery: nursery, Old: old, Collect: t.Collect}, t.Inputs)
	if err != nil {
		return Answer{Err: err}
	}
	a := Answer{}
	for {
		e, ok := m.Next()
		if !ok {
			a.Full = m.Full()
			return a
		}
		a.Events = append(a.Events, e)
	}
}

// wanted is what tasks must be answered.
func wanted(l []Task) (out []string) {
	for _, t := range l {
		out = append(out, text(run(t)))
	}
	return out
}

// wantOne holds the answer to a task against one.
func wantOne(t *testing.T, task Task, want string) {
	t.Helper()
	if got := text(One(task)); got != want {
		t.Errorf("%.200q, %d inputs, collected by %.50s: %.300s, want %.300s", task.Text, len(task.Inputs), fmt.Sprint(task.Collect), got, want)
	}
}

// wantAll holds the answers to tasks against those that there must be.
func wantAll(t *testing.T, l []Task, workers int, want []string) {
	t.Helper()
	a, err := All(l, workers)
	if err != nil {
		t.Fatalf("%d tasks, %d workers: error %d", len(l), workers, api.Tell(err))
	}
	if len(a) != len(l) {
		t.Fatalf("%d tasks, %d workers: %d answers", len(l), workers, len(a))
	}
	for i, got := range texts(a) {
		if got != want[i] {
			t.Fatalf("%d tasks, %d workers: number %d, %.200q: %.300s, want %.300s", len(l), workers, i, l[i].Text, got, want[i])
		}
	}
}

// greedy makes lists that all are used, so many in one statement that 60,000 cells are too few ahead of MaxEvents events.
var greedy = "var l = nil;\nwhile (true) { l = " + lists("l", 3) + "; }"

// lists are lists within lists, so deep, of 8 parts each; the innermost ones begin with a value.
func lists(first string, deep int) string {
	if deep == 0 {
		return first
	}
	return "[" + lists(first, deep-1) + strings.Repeat(","+lists("1", deep-1), 7) + "]"
}

// tooGreat is a program of more functions than an image may have.
func tooGreat() string {
	s := ""
	for i := range 250 {
		s += fmt.Sprintf("fn f%d(){}", i)
	}
	return s
}

// numbers are so many, from 1 on.
func numbers(many int) (l []int) {
	for i := range many {
		l = append(l, i+1)
	}
	return l
}

// sample are tasks of all kinds: those that end in each way, and those that can't be run.
func sample() []Task {
	long := "var i = 0;\nwhile (i < input()) { i = i + 1; }"
	return []Task{
		{Text: "print(1 + 2);"},
		{Text: "print(1 / 0);"},
		{Text: "while (true) { }"},
		{Text: greedy},
		{Text: "print("},
		{Text: "\nprint(a);"},
		{Text: tooGreat()},
		{Text: "print(input());", Inputs: numbers(101)},
		{Text: "print(1);", Collect: []int{0, 1, 2, 3}},
		{},
		{Text: "print(input()); print(input()); print(input());", Inputs: []int{-5, 7}},
		{Text: long, Inputs: slices.Repeat([]int{90}, 100), Collect: []int{1}},
		{Text: "fn f(n) { return [f(n + 1)]; }\ntry { f(0); } catch (e) { print(e); throw [e]; }", Collect: []int{2, 0}},
		{Text: "class A { field p; init(x) { this.p = [x]; } }\nprint(new A(input()).p[0]); print(fn() { }); print(new A(2));", Inputs: []int{1 << 40}},
	}
}

// die: numbers that look drawn, the same each time.
type die uint64

func (d *die) n(below int) int {
	*d = *d*6364136223846793005 + 1442695040888963407
	return int(uint64(*d>>33) % uint64(below))
}

func (d *die) one(l ...string) string { return l[d.n(len(l))] }
