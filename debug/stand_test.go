package debug

import (
	"fmt"
	"testing"

	"rewind/api"
	"rewind/replay"
)

// 9.1: ErrMissing of a recording that is nil, without a place, and nothing beside it.
func TestNoRecording(t *testing.T) {
	d, err := New(nil)
	if d != nil {
		t.Error("a debugger of no recording")
	}
	wantError(t, "New", err, api.ErrMissing)
}

// 9.1: it first stands behind none; there, behind each number of events, and behind all Where tells that number, and the last event.
func TestWhere(t *testing.T) {
	for name, u := range samples(t) {
		events := u.events(t)
		d := u.debugger(t, 30)
		wantWhere(t, name+": first", d, 0, api.Event{})
		for n := range len(events) + 1 {
			stand(t, d, n)
			wantWhere(t, name, d, n, last(events, n))
			wantWhere(t, name+", again", d, n, last(events, n))
		}
	}
}

// 9.1, as DOC.md's example tells: two Steps lead behind 3 events, to line 2.
func TestExample(t *testing.T) {
	d := runOf(t, "print(1);\nprint(2);").debugger(t, 10)
	if !d.Step() || !d.Step() {
		t.Error("Step tells false")
	}
	wantWhere(t, "two Steps", d, 3, api.Event{Kind: api.Stop, Line: 2})
}

// 9.1: Goto stands at each number from 0 to all; of others ErrRange, and it stands where it stood.
func TestGoto(t *testing.T) {
	for name, u := range samples(t) {
		events := u.events(t)
		all := len(events)
		d := u.debugger(t, 25)
		for _, n := range []int{all, 0, all / 2, all, all / 3, 0} {
			wantError(t, name, d.Goto(n), api.OK)
			wantWhere(t, name, d, n, last(events, n))
			for _, wrong := range []int{-1, all + 1, -1 << 63, 1<<63 - 1, api.MaxEvents + 1} {
				wantError(t, fmt.Sprint(name, ": Goto ", wrong), d.Goto(wrong), api.ErrRange)
				wantWhere(t, fmt.Sprint(name, ": Goto ", wrong), d, n, last(events, n))
			}
		}
	}
}

// 9.1: from behind none no way leads back, from behind all none leads on; that tells false each time, and makes no difference.
func TestAtBothEnds(t *testing.T) {
	for name, u := range samples(t) {
		events := u.events(t)
		d := u.debugger(t, 60)
		d.Throws(true)
		wantError(t, name, d.Break(1, true), api.OK)
		for i, w := range ways() {
			n := 0
			if i%2 == 0 {
				n = len(events)
			}
			stand(t, d, n)
			for range 2 {
				if w.goes(d) {
					t.Errorf("%s: %s tells true", name, w.name)
				}
				wantWhere(t, name+": "+w.name, d, n, last(events, n))
			}
		}
	}
}

// P1: of a debugger that New did not make, and of a recording that Record did not make, there is nothing; none of the calls panics.
func TestOfNoRun(t *testing.T) {
	empty := made(t, &replay.Recording{})
	for what, d := range map[string]*Debugger{"nil": nil, "zero": {}, "a zero recording's": empty} {
		d.Break(1, true)
		d.Break(1, false)
		d.Throws(true)
		for _, w := range ways() {
			if w.goes(d) {
				t.Errorf("%s: %s tells true", what, w.name)
			}
		}
		wantWhere(t, what, d, 0, api.Event{})
		for _, n := range []int{-1, 1} {
			wantError(t, what+": Goto", d.Goto(n), api.ErrRange)
		}
		for _, id := range []int{-1, 0, 1} {
			wantError(t, what+": Born", d.Born(id), api.ErrMissing)
		}
		wantError(t, what+": Break", d.Break(0, true), api.ErrRange)
		if m, err := d.Machine(); m != nil || err == nil {
			t.Errorf("%s: a machine, or no error", what)
		}
		if s, err := d.Print("a"); s != "" || err == nil {
			t.Errorf("%s: a variable, or no error", what)
		}
	}
}
