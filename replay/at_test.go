package replay

import (
	"math"
	"slices"
	"testing"

	"rewind/api"
	"rewind/code"
	"rewind/vm"
)

// places are numbers of events to look at: all of them in short runs, in long ones the edges, those where machines were kept, and some between.
func places(events, every int) (l []int) {
	for n := range events + 1 {
		if events < 60 || n < 5 || n > events-5 || n%every < 2 && n < 5*every || n%97 == 0 {
			l = append(l, n)
		}
	}
	return l
}

// 7.1: ErrRange, unless there were so many events; nothing comes then.
func TestAtErrors(t *testing.T) {
	for name, u := range samples(t) {
		want, _ := u.end(t)
		for _, every := range everies(len(want)) {
			r := u.recorded(t, every)
			for _, n := range []int{-1, -2, -every, math.MinInt, len(want) + 1, len(want) + every, math.MaxInt} {
				if x, err := r.At(n); x != nil || api.Tell(err) != api.ErrRange || place(err) != -1 {
					t.Errorf("%s, every %d, behind %d of %d events: %v, error %d", name, every, n, len(want), x, api.Tell(err))
				}
			}
			for _, n := range []int{0, len(want)} {
				if x := at(t, r, n); x.Count() != n {
					t.Errorf("%s, every %d: behind %d events, not %d", name, every, x.Count(), n)
				}
			}
		}
	}
}

// 7.1: a machine that At gave is as one that ran there without stopping, in all that can be asked of it, whatever every is.
func TestAtIsAsItWas(t *testing.T) {
	for name, u := range samples(t) {
		events, _ := u.end(t)
		was := map[int]string{}
		for _, every := range everies(len(events)) {
			r := u.recorded(t, every)
			for _, n := range places(len(events), every) {
				if was[n] == "" {
					was[n] = whole(u.gone(t, n))
				}
				if got := whole(at(t, r, n)); got != was[n] {
					t.Fatalf("%s, every %d, behind %d events:\n%s, want\n%s", name, every, n, got, was[n])
				}
			}
		}
	}
}

// 7.1: it goes on to the end as the run did, event by event, and is as the run's machine then.
func TestAtGoesOn(t *testing.T) {
	for name, u := range samples(t) {
		events, end := u.end(t)
		last := whole(end)
		for _, every := range everies(len(events)) {
			r := u.recorded(t, every)
			for _, n := range places(len(events), every) {
				x := at(t, r, n)
				if got := rest(x); !slices.Equal(got, events[n:]) || x.Full() != r.Full() || !x.Ended() {
					t.Fatalf("%s, every %d, behind %d events: full %v, %.300s, want %v, %.300s", name, every, n, x.Full(), told(got...), r.Full(), told(events[n:]...))
				}
				if got := whole(x); got != last {
					t.Fatalf("%s, every %d, from %d events on:\n%s, want\n%s", name, every, n, got, last)
				}
			}
		}
	}
}

// 7.1, 6.2: behind its last event a machine is over, if that was Done or Dead, or the last one that may be; for want of room it is over when the next one is asked for.
func TestAtTheEnd(t *testing.T) {
	for name, u := range samples(t) {
		events, _ := u.end(t)
		for _, every := range everies(len(events)) {
			r := u.recorded(t, every)
			x := at(t, r, len(events))
			if x.Full() || x.Ended() == r.Full() {
				t.Errorf("%s, every %d: at the end full %v, ended %v", name, every, x.Full(), x.Ended())
			}
			if e, ok := x.Next(); ok || e != (api.Event{}) || x.Full() != r.Full() || x.Count() != len(events) {
				t.Errorf("%s, every %d: it goes on by %s, full %v", name, every, told(e), x.Full())
			}
		}
	}
}

// 7.1: behind a Thrown that nobody catches the machine tells Dead, wherever it was kept.
func TestAtNobodyCaught(t *testing.T) {
	u := run{compiled(t, "fn f() {\nthrow [1, \"text\"]; }\nvar a = [];\nf();"), roomy(1), nil}
	for every := range 8 {
		r := u.recorded(t, every+1)
		if got := told(r.Events()...); got != "S3 S4 S2 T2:list#2 X:list#2" {
			t.Fatalf("%s", got)
		}
		x := at(t, r, 4)
		if s := x.State(); len(s.Frames) != 1 || s.Frames[0].Line != 4 || s.Ended {
			t.Errorf("every %d: behind Thrown %+v", every+1, s)
		}
		if got := told(rest(x)...); got != "X:list#2" {
			t.Errorf("every %d: behind Thrown %s", every+1, got)
		}
		if s := at(t, r, 5).State(); len(s.Frames) != 1 || !s.Ended || s.Events != 5 {
			t.Errorf("every %d: behind Dead %+v", every+1, s)
		}
	}
}

// 6.1, 7.1: collections go on in their turn across the places where machines were kept, in rooms of all kinds, those that are too small, too.
func TestAtCollected(t *testing.T) {
	texts := []string{sample, grows, "var l = []; var i = 0; while (i < 12) { l = [l]; var j = l; if (i == 6) { l = fn() { return j; }; } i = i + 1; } print(l);"}
	collects := [][]int{nil, {0}, {1}, {2}, {0, 2}, {1, 0, 2}, {0, 1, 2, 1, 0}}
	for _, text := range texts {
		image := compiled(t, text)
		for _, nursery := range []int{1, 2, 30, 59, 60} {
			for _, collect := range collects {
				atCollected(t, run{image, vm.Config{Nursery: nursery, Old: 150, Collect: collect}, []int{7}})
			}
		}
	}
}

func atCollected(t *testing.T, u run) {
	t.Helper()
	events, end := u.end(t)
	for _, every := range []int{1, 3, api.MaxEvents} {
		r := u.recorded(t, every)
		if !slices.Equal(r.Events(), events) || r.Full() != end.Full() {
			t.Fatalf("%+v, every %d: full %v, %.300s, want %.300s", u.config, every, r.Full(), told(r.Events()...), told(events...))
		}
		for n := 0; n <= len(events); n += 5 {
			x := at(t, r, n)
			if got, want := whole(x), whole(u.gone(t, n)); got != want {
				t.Fatalf("%+v, every %d, behind %d events:\n%s, want\n%s", u.config, every, n, got, want)
			}
			if got := rest(x); !slices.Equal(got, events[n:]) || whole(x) != whole(end) {
				t.Fatalf("%+v, every %d, behind %d events: %.300s, want %.300s", u.config, every, n, told(got...), told(events[n:]...))
			}
		}
	}
}

// 7.1: what At answers hangs on no At before it: forth, back, and the same one again.
func TestAtInAnyOrder(t *testing.T) {
	u := samples(t)["sample, collected"]
	events, _ := u.end(t)
	d := die(5)
	for _, every := range []int{1, 4, 10, api.MaxEvents} {
		r := u.recorded(t, every)
		for range 100 {
			n := d.n(len(events) + 1)
			x := at(t, r, n)
			if whole(x) != whole(u.gone(t, n)) {
				t.Fatalf("every %d: behind %d events it is another machine", every, n)
			}
			for range d.n(10) {
				x.Next()
			}
		}
	}
}

// 7.1: of a run without events there is a machine behind none.
func TestAtWithoutEvents(t *testing.T) {
	u := run{byHand(code.Instr{Op: code.Jump}), vm.Config{Nursery: 1, Old: 1}, nil}
	for _, every := range []int{1, api.MaxEvents} {
		r := u.recorded(t, every)
		if len(r.Events()) != 0 || !r.Full() {
			t.Errorf("%s, full %v", told(r.Events()...), r.Full())
		}
		x := at(t, r, 0)
		if x.Ended() || x.Full() || len(rest(x)) != 0 || !x.Full() {
			t.Errorf("ended %v, full %v", x.Ended(), x.Full())
		}
		if y, err := r.At(1); y != nil || api.Tell(err) != api.ErrRange {
			t.Errorf("behind 1 event: %v, error %d", y, api.Tell(err))
		}
	}
}
