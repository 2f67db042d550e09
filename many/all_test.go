package many

import (
	"errors"
	"fmt"
	"reflect"
	"runtime"
	"slices"
	"sync"
	"testing"

	"rewind/api"
)

// some are so many tasks: those of the sample round and round, and each time one that tells its number.
func some(many int) (l []Task) {
	all := sample()
	for i := range many {
		if i%2 == 0 {
			l = append(l, Task{Text: fmt.Sprint("print(", i, ");")})
		} else {
			l = append(l, all[i/2%len(all)])
		}
	}
	return l
}

// 10.1: One of each, in order: of none, of few, of 50, by 1 worker, 16, and some between.
func TestAll(t *testing.T) {
	for _, many := range []int{0, 1, 2, 3, 15, 16, 17, 49, 50} {
		l := some(many)
		want := wanted(l)
		for _, workers := range []int{1, 2, 3, 7, 15, 16} {
			wantAll(t, l, workers, want)
		}
	}
	for workers := 1; workers <= 16; workers++ {
		for _, l := range [][]Task{nil, {}} {
			if a, err := All(l, workers); len(a) != 0 || err != nil {
				t.Errorf("no task, %d workers: %d answers, error %d", workers, len(a), api.Tell(err))
			}
		}
	}
}

// 10.1: ErrLimit of more than 50 tasks, or workers that are not from 1 to 16; there are no answers then.
func TestLimits(t *testing.T) {
	for _, c := range []struct{ tasks, workers int }{
		{51, 1}, {51, 16}, {51, 0}, {1000, 4}, {0, 0}, {0, 17}, {0, -1}, {1, -1}, {1, 0}, {1, 17}, {50, 0}, {50, 17}, {51, 17}, {3, -1 << 63}, {3, 1<<63 - 1},
	} {
		a, err := All(make([]Task, c.tasks), c.workers)
		if a != nil || fault(err) != "4" {
			t.Errorf("%d tasks, %d workers: %d answers, error %s", c.tasks, c.workers, len(a), fault(err))
		}
	}
}

// 10.1: tasks that can't be run are answered in their places; they are no error of All, whichever they are, and however many.
func TestWrongTasks(t *testing.T) {
	wrong := Task{Text: "print("}
	right := Task{Text: "print(1);"}
	for _, l := range [][]Task{{wrong}, {wrong, right}, {right, wrong}, {wrong, right, wrong, wrong}, slices.Repeat([]Task{wrong}, 50)} {
		want := wanted(l)
		for _, workers := range []int{1, 3, 16} {
			wantAll(t, l, workers, want)
		}
	}
}

// 10.1: answers stand in the order of the tasks, whichever task takes longest.
func TestOrder(t *testing.T) {
	rounds := []int{740, 0, 600, 1, 2, 700, 3, 300, 0, 0, 500, 9, 740, 1, 50, 0, 0, 0, 400, 8}
	var l []Task
	for i, n := range rounds {
		l = append(l, Task{Text: fmt.Sprint("print(", i, "); var i = 0; while (i < ", n, ") { i = i + 1; }")})
	}
	for workers := 1; workers <= 16; workers++ {
		a, err := All(l, workers)
		if err != nil {
			t.Fatalf("%d workers: error %d", workers, api.Tell(err))
		}
		for i := range l {
			if got := a[i].Events[1].Text; got != fmt.Sprint(i) || len(a[i].Events) != 2*rounds[i]+5 {
				t.Fatalf("%d workers: where number %d should stand, there is %s, of %d events", workers, i, got, len(a[i].Events))
			}
		}
	}
}

// 10.1, the whole, 7: however many workers there are makes no difference, nor does another time.
func TestWorkers(t *testing.T) {
	d := die(1)
	for _, many := range []int{50, 50, 50, 13, 5} {
		var l []Task
		for range many {
			l = append(l, drawn(&d))
		}
		want := wanted(l)
		for workers := 1; workers <= 16; workers++ {
			wantAll(t, l, workers, want)
		}
		wantAll(t, l, 4, want)
	}
}

// drawn is a task that looks drawn: some are wrong.
func drawn(d *die) Task {
	s := "class A { field p; init(x) { this.p = x; } }\nfn f(n) { if (n < 1) { return [n]; }\nreturn [f(n - 1)]; }\nvar a = input();\n"
	for range d.n(6) {
		s += d.one(
			"a = [a, input()];", "print(a);", "a = f(30);", "throw a;", "print(f(3)[0]);", "a = new A(a);", "print(a.p);",
			"try { a = a[1]; } catch (e) { print(e); }", "try { print(f(input())); } catch (e) { a = fn() { return e; }; }", "while (len([a]) == 1) { a = [a]; }",
			"print(a + 1);", "print(b);", "print(;",
		) + "\n"
	}
	task := Task{Text: s}
	for range d.n(4) {
		task.Inputs = append(task.Inputs, d.n(5)-1)
	}
	for range d.n(4) {
		task.Collect = append(task.Collect, d.n(20)%7%4)
	}
	return task
}

// What is drawn does all kinds of things, so that the test above is one.
func TestDrawn(t *testing.T) {
	d := die(1)
	found := map[string]int{}
	for range 300 {
		a := One(drawn(&d))
		found[fmt.Sprintf("error %d", api.Tell(a.Err))]++
		if a.Err == nil {
			found[told(api.Event{Kind: a.Events[len(a.Events)-1].Kind})]++
		}
	}
	for _, what := range []string{"error 0", "error 2", "error 3", "error 5", "D", "X", "S"} {
		if found[what] < 10 {
			t.Errorf("%s: %d times", what, found[what])
		}
	}
}

// 10.1: the same task several times is answered the same each time.
func TestSameTask(t *testing.T) {
	for _, task := range sample() {
		l := slices.Repeat([]Task{task}, 20)
		wantAll(t, l, 6, wanted(l))
	}
}

// P4: no answer shares memory with another one: what becomes of one is not seen in the others, nor by the next call.
func TestNoSharedAnswers(t *testing.T) {
	var l []Task
	for _, task := range sample() {
		l = append(l, task, task, task)
	}
	want := wanted(l)
	a, err := All(l, 5)
	if err != nil {
		t.Fatalf("error %d", api.Tell(err))
	}
	for i := range a {
		before := texts(a[i+1:])
		// What stands behind a list's length may be another one's, too.
		for k := range a[i].Events[:cap(a[i].Events)] {
			a[i].Events[:cap(a[i].Events)][k] = api.Event{Kind: api.Out, Text: "spoilt"}
		}
		var at *api.At
		if errors.As(a[i].Err, &at) {
			at.Place, at.Err = -7, api.ErrFalse
		}
		if !slices.Equal(texts(a[i+1:]), before) {
			t.Fatalf("answer %d shares memory with another one", i)
		}
	}
	wantAll(t, l, 5, want)
	for i, task := range l {
		wantOne(t, task, want[i])
	}
}

// copied are tasks that share no memory with others; behind the lengths of their lists stand other numbers.
func copied(l []Task) []Task {
	out := append(make([]Task, 0, len(l)+1), l...)
	for i := range out {
		for _, list := range []*[]int{&out[i].Inputs, &out[i].Collect} {
			more := append(slices.Clone(*list), 77, 78)
			*list = more[:len(more)-2]
		}
	}
	out = append(out, Task{Text: "behind"})
	return out[:len(l)]
}

// P4: tasks are not written into, nor what stands behind their lengths; and what becomes of them later is not seen in answers.
func TestTasksStay(t *testing.T) {
	l := copied(sample())
	same := copied(sample())
	want := wanted(l)
	a, err := All(l, 3)
	if err != nil {
		t.Fatalf("error %d", api.Tell(err))
	}
	for i := range l[:cap(l)] {
		x, y := l[:cap(l)][i], same[:cap(same)][i]
		if x.Text != y.Text || !reflect.DeepEqual(x.Inputs[:cap(x.Inputs)], y.Inputs[:cap(y.Inputs)]) || !reflect.DeepEqual(x.Collect[:cap(x.Collect)], y.Collect[:cap(y.Collect)]) {
			t.Errorf("task %d was written into", i)
		}
	}
	for i := range l {
		clear(l[i].Inputs)
		clear(l[i].Collect)
		l[i].Text = ""
	}
	if !slices.Equal(texts(a), want) {
		t.Error("answers share memory with tasks")
	}
}

// All workers are gone when All answers.
func TestWorkersAreGone(t *testing.T) {
	before := runtime.NumGoroutine()
	l := some(50)
	for range 5 {
		for _, workers := range []int{1, 16} {
			if _, err := All(l, workers); err != nil {
				t.Fatalf("error %d", api.Tell(err))
			}
		}
		All(nil, 16)
		All(l, 17)
	}
	// A worker that told that it is at its end may be on its very last step yet.
	for range 1_000_000 {
		if runtime.NumGoroutine() <= before {
			return
		}
		runtime.Gosched()
	}
	t.Errorf("%d goroutines, before it were %d", runtime.NumGoroutine(), before)
}

// P4: what a call answers hangs on its arguments alone: several may be made at the same time, of the same tasks.
func TestAtTheSameTime(t *testing.T) {
	l := some(20)
	want := wanted(l)
	var wait sync.WaitGroup
	for workers := 1; workers <= 8; workers++ {
		wait.Go(func() {
			if a, err := All(l, workers); err != nil || !slices.Equal(texts(a), want) {
				t.Errorf("%d workers: other answers, error %d", workers, api.Tell(err))
			}
		})
	}
	wait.Wait()
}
