package debug

import (
	"fmt"
	"slices"
	"testing"

	"rewind/api"
)

// ofAll does something with a debugger of each sample, and of some programs that look drawn.
func ofAll(t *testing.T, do func(t *testing.T, what string, u run, d *Debugger)) {
	t.Helper()
	for name, u := range samples(t) {
		do(t, name, u, u.debugger(t, 25))
	}
	d := &drawer{11}
	for range 40 {
		if text, u, ok := d.drawn(t); ok {
			do(t, text, u, u.debugger(t, 1+d.n(300)))
		}
	}
}

// The whole, 6: whoever goes forth comes back: by Steps to the end one comes to each Stop, once, and by Backs to all of them again that are behind it, the other way round.
func TestForthAndBack(t *testing.T) {
	ofAll(t, func(t *testing.T, what string, u run, d *Debugger) {
		events := u.events(t)
		var stops, forth, back []int
		for n, e := range events {
			if e.Kind == api.Stop {
				stops = append(stops, n+1)
			}
		}
		for d.Step() {
			forth = append(forth, where(d))
		}
		if where(d) != len(events) {
			t.Errorf("%s\nby Steps one comes behind %d events, not all", what, where(d))
		}
		for d.Back() {
			back = append(back, where(d))
		}
		if where(d) != 0 {
			t.Errorf("%s\nby Backs one comes behind %d events, not none", what, where(d))
		}
		slices.Reverse(back)
		behind := slices.DeleteFunc(slices.Clone(stops), func(n int) bool { return n == len(events) })
		if !slices.Equal(forth, stops) || !slices.Equal(back, behind) {
			t.Errorf("%s\nStops %.300v, Steps lead to %.300v, Backs to %.300v", what, stops, forth, back)
		}
	})
}

// The whole, 6: one step forth from a Stop, and one back, and one stands where one stood; likewise the other way round, and of lines.
func TestThereAndBack(t *testing.T) {
	ofAll(t, func(t *testing.T, what string, u run, d *Debugger) {
		d.Throws(true)
		for line := range 9 {
			wantError(t, what, d.Break(line+1, true), api.OK)
		}
		pairs := ways()
		for _, i := range []int{0, 6} {
			for _, n := range some(len(u.events(t))) {
				stand(t, d, n)
				forth, back := pairs[i], pairs[i+1]
				if !forth.goes(d) {
					continue
				}
				first := where(d)
				if forth.goes(d) && (!back.goes(d) || where(d) != first) {
					t.Fatalf("%s\n%s from %d, and %s: it stands at %d", what, forth.name, first, back.name, where(d))
				}
			}
		}
	})
}

// The whole, 6: Next and Finish never stand deeper where they tell true, nor do Prev and Came; Finish and Came stand less deep.
func TestNeverDeeper(t *testing.T) {
	ofAll(t, func(t *testing.T, what string, u run, d *Debugger) {
		for i, w := range ways()[2:6] {
			for _, n := range some(len(u.events(t))) {
				stand(t, d, n)
				was := underWay(t, d)
				if !w.goes(d) {
					continue
				}
				if is := underWay(t, d); is > was || i >= 2 && is == was {
					t.Fatalf("%s\n%s from %d, where %d functions are under way, leads to %d, where %d are", what, w.name, n, was, where(d), is)
				}
			}
		}
	})
}

// The whole, 6: an object is found where it was made: it is there then, and was not given one event ahead of that.
func TestFoundWhereItWasMade(t *testing.T) {
	ofAll(t, func(t *testing.T, what string, u run, d *Debugger) {
		all := len(u.events(t))
		given := u.gone(t, all).Heap().Last()
		for id := 1; id <= given; id += 1 + given/20 {
			wantError(t, fmt.Sprint(what, "\nBorn ", id), d.Born(id), api.OK)
			n := where(d)
			if machine(t, d).Heap().Last() < id {
				t.Fatalf("%s\nbehind %d events %d was not given", what, n, id)
			}
			stand(t, d, n-1)
			if machine(t, d).Heap().Last() >= id {
				t.Fatalf("%s\nbehind %d events %d was given already", what, n-1, id)
			}
		}
		wantError(t, what, d.Born(given+1), api.ErrMissing)
	})
}
