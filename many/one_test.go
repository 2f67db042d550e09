package many

import (
	"fmt"
	"slices"
	"strings"
	"testing"

	"rewind/api"
)

// 10.1: the events of programs that end by Done, or by Dead, as DOC.md's examples tell them, and others.
func TestOne(t *testing.T) {
	for _, c := range []struct {
		task Task
		want string
	}{
		{Task{}, "D"},
		{Task{Text: "\n \n"}, "D"},
		{Task{Text: "print(1 + 2);"}, "S1 O:3 D"},
		{Task{Text: "print([1]);"}, "S1 O:list#1 D"},
		{Task{Text: "print(1 / 0);"}, "S1 T1:zero X:zero"},
		{Task{Text: "\nthrow [];"}, "S2 T2:list#1 X:list#1"},
		{Task{Text: "throw \"\";"}, "S1 T1 X"},
		{Task{Text: "try { throw 7; }\ncatch (e) { print(e); }"}, "S1 S1 T1:7 C2 S2 O:7 D"},
		{Task{Text: "fn f(x) { print(x);\nreturn x; }\nprint(f(1));"}, "S3 S1 O:1 S2 O:1 D"},
		{Task{Text: "print(input()); print(input());"}, "S1 O:nil S1 O:nil D"},
		{Task{Text: "print(input()); print(input());", Inputs: []int{5}}, "S1 O:5 S1 O:nil D"},
		{Task{Text: "print(input()); print(input());", Inputs: []int{-1 << 63, 1<<63 - 1, 3}}, "S1 O:-9223372036854775808 S1 O:9223372036854775807 D"},
	} {
		wantOne(t, c.task, c.want+"; full false; error 0")
	}
}

// 10.1: what Parse says of the text, its place, too, and nothing else.
func TestParseErrors(t *testing.T) {
	for _, c := range []struct {
		text string
		want string
	}{
		{"print(", "3 at 6"},
		{"print(1)", "3 at 8"},
		{"1;\n2 = 3;", "1 at 3"},
		{"a23456789b123456 = a23456789b1234567;", "4 at 19"},
		{"print(9223372036854775809);", "2 at 6"},
		{"\x00", "3 at 0"},
		{strings.Repeat(" ", api.MaxSource+1), "4"},
		{strings.Repeat("1;", 600), "4"},
	} {
		wantOne(t, Task{Text: c.text}, "; full false; error "+c.want)
	}
	wantOne(t, Task{Text: strings.Repeat(" ", api.MaxSource)}, "D; full false; error 0")
}

// 10.1: what Compile says of the program, its line, too, and nothing else.
func TestCompileErrors(t *testing.T) {
	for _, c := range []struct {
		text string
		want string
	}{
		{"\nprint(a);", "5 at 2"},
		{"fn f() {}\nfn f() {}", "9 at 2"},
		{"class A < B {}", "7 at 1"},
		{"class A < B {}\nclass B < A {}", "11 at 1"},
		{"\n\nreturn;", "6 at 3"},
		{"fn f(x) {}\nf();", "1 at 2"},
		{tooGreat(), "4"},
	} {
		wantOne(t, Task{Text: c.text}, "; full false; error "+c.want)
	}
}

// 10.1: what Record says: of inputs, and of numbers in Collect; nothing else.
func TestRecordErrors(t *testing.T) {
	text := "print(input());"
	right := "S1 O:1 D; full false; error 0"
	wrong := "; full false; error 2"
	wantOne(t, Task{Text: text, Inputs: numbers(api.MaxInputs)}, right)
	wantOne(t, Task{Text: text, Inputs: numbers(api.MaxInputs + 1)}, wrong)
	for _, collect := range [][]int{nil, {}, {0}, {1}, {2}, {0, 1, 2}, slices.Repeat([]int{2, 1}, 500)} {
		wantOne(t, Task{Text: text, Inputs: []int{1}, Collect: collect}, right)
	}
	for _, collect := range [][]int{{-1}, {3}, {0, 1, 2, 3}, {-1 << 63, 0}, {0, 1<<63 - 1}, append(make([]int, 3000), 4)} {
		wantOne(t, Task{Text: text, Inputs: []int{1}, Collect: collect}, wrong)
	}
}

// 10.1: one behind the other: what Parse says ahead of what Compile says, that ahead of what Record says.
func TestWhichError(t *testing.T) {
	many, other := numbers(101), []int{3}
	for _, c := range []struct {
		text string
		want string
	}{
		{"print(a); print(", "3 at 16"},
		{"print(", "3 at 6"},
		{"print(a);", "5 at 1"},
		{"print(1);", "2"},
	} {
		want := "; full false; error " + c.want
		wantOne(t, Task{c.text, many, nil}, want)
		wantOne(t, Task{c.text, nil, other}, want)
		wantOne(t, Task{c.text, many, other}, want)
	}
}

// P2: with an error there are no events, and it is not full.
func TestNothingBesideAnError(t *testing.T) {
	wrong := 0
	for _, task := range sample() {
		if a := One(task); a.Err != nil {
			wrong++
			if a.Events != nil || a.Full {
				t.Errorf("%.100q: %d events, full %v", task.Text, len(a.Events), a.Full)
			}
		}
	}
	if wrong != 5 {
		t.Errorf("%d tasks are wrong, want 5", wrong)
	}
}

// 10.1: runs that end at MaxEvents, ahead of Done, or with it, are not full.
func TestMaxEvents(t *testing.T) {
	for text, last := range map[string]string{
		"while (true) { }": "S1",
		"var i = 0;\nwhile (i < 747) {\ni = i + 1; }\n1;\nprint(1);": "D",
		"var i = 0;\nwhile (i < 748) {\ni = i + 1; }\n1;\nprint(1);": "S5",
	} {
		a := One(Task{Text: text})
		if len(a.Events) != api.MaxEvents || a.Full || a.Err != nil {
			t.Errorf("%q: %d events, full %v, error %d", text, len(a.Events), a.Full, api.Tell(a.Err))
		}
		if got := told(a.Events[len(a.Events)-1]); got != last {
			t.Errorf("%q: the last event is %s, want %s", text, got, last)
		}
	}
}

// 10.1: a run that ends for want of room is full; its events are told, and that is no error.
func TestFull(t *testing.T) {
	for _, collect := range [][]int{nil, {1}, {2}, {0, 1, 2}} {
		a := One(Task{Text: greedy, Collect: collect})
		if !a.Full || a.Err != nil || len(a.Events) == 0 || len(a.Events) >= api.MaxEvents {
			t.Errorf("collected by %v: %d events, full %v, error %d", collect, len(a.Events), a.Full, api.Tell(a.Err))
		}
		if last := a.Events[len(a.Events)-1]; last.Kind != api.Stop {
			t.Errorf("collected by %v: the last event is %s", collect, told(last))
		}
	}
}

// 10.1: the room is that of api.Nursery and api.Old: in others it would be full earlier, or later.
func TestRoom(t *testing.T) {
	// 91 rounds take nearly all, then there is less and less, two cells at a time.
	task := Task{Text: fmt.Sprint("var l = nil; var i = 0;\nwhile (i < 91) { i = i + 1;\nl = ", lists("l", 3), "; }\nwhile (true) { l = [l]; }")}
	got := text(One(task))
	if want := text(run(task)); got != want || !One(task).Full {
		t.Errorf("%d bytes of events, want %d", len(got), len(want))
	}
	for _, room := range [][2]int{{500, 60_000}, {590, 60_000}, {610, 60_000}, {700, 60_000}, {600, 59_000}, {600, 61_000}, {60_000, 600}} {
		if got == text(runIn(task, room[0], room[1])) {
			t.Errorf("it is as in a room of %d", room)
		}
	}
}

// 10.1, the whole, 4: whenever the heap is collected, the events are the same.
func TestCollectIsNotSeen(t *testing.T) {
	for _, task := range sample() {
		want := ""
		for _, collect := range [][]int{nil, {1}, {2}, {0, 1, 2, 1}} {
			task.Collect = collect
			if a := One(task); want == "" {
				want = text(a)
			} else if got := text(a); got != want && !a.Full {
				t.Errorf("%.200q, collected by %v: %.300s, want %.300s", task.Text, collect, got, want)
			}
		}
	}
}

// 10.1: One tells what a machine tells that nobody recorded.
func TestOneOfAll(t *testing.T) {
	for _, task := range sample() {
		wantOne(t, task, text(run(task)))
	}
}
