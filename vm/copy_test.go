package vm

import (
	"reflect"
	"slices"
	"testing"

	"rewind/api"
)

// copies are programs whose machines are copied behind each of their events, and the room that these have.
func copies() map[string]Config {
	return map[string]Config{
		sample:                            {60, 600, []int{1, 0, 2}},
		"":                                roomy(),
		"throw [1];":                      roomy(2),
		"print(input()); print(input());": roomy(1, 0, 0),
		"fn f(n) { if (n == 0) { throw n; } f(n - 1); } try { f(5); } catch (e) { f(2); }":  {1, 1, nil},
		"class A { field p; init() { this.p = [this]; this.p[0] = 1; } } print(new A().p);": roomy(1),
		"var l = nil; while (true) { l = [l, 1, 2, 3]; }":                                   {40, 400, []int{0, 0, 1}},
		"var i = 0; while (i < 20) { var j = i; i = (fn() { j = j + 1; return j; })(); }":   {10, 100, []int{0, 1}},
	}
}

// 6.2: a Copy goes on likewise, whenever it is made: ahead of the first event, in the middle, at the end; and so does the machine itself.
func TestCopy(t *testing.T) {
	for text, c := range copies() {
		x := doing(t, text, c, 7, 8)
		whole := x.Copy()
		all := rest(whole)
		for n := 0; ; n++ {
			a := x.Copy()
			b := a.Copy()
			if !reflect.DeepEqual(a.State(), x.State()) || a.Count() != n || a.Ended() != x.Ended() || a.Full() != x.Full() {
				t.Fatalf("%.200q, behind %d events: %+v, want %+v", text, n, a.State(), x.State())
			}
			for _, y := range []*Machine{a, b} {
				if got := rest(y); !slices.Equal(got, all[n:]) {
					t.Fatalf("%.200q, behind %d events: %s, want %s", text, n, told(got...), told(all[n:]...))
				}
				wantEnd(t, text, y, len(all), whole.Full())
				if again := y.Copy(); !again.Ended() || again.Full() != y.Full() || again.Count() != y.Count() {
					t.Fatalf("%.200q: a copy of what is over: %+v", text, again.State())
				}
			}
			if x.Count() != n {
				t.Fatalf("%.200q: behind %d events, a copy went on to %d", text, n, x.Count())
			}
			if _, ok := x.Next(); !ok {
				break
			}
		}
	}
}

// 6.2: a Copy goes its own way: what one of both does to objects, boxes and variables the other one does not see.
func TestCopyGoesItsOwnWay(t *testing.T) {
	text := "class A { field p; }\nvar a = new A(); var l = [0]; var n = 0; var f = fn() { n = n + 1; return n; };\n" +
		"while (true) { var i = input(); if (i == nil) { throw l; } a.p = i; l[0] = l[0] + i; l = l + [a.p]; print(l[0] + f() * 1000); }"
	inputs := []int{1, 2, 3, 4, 5, 6, 7, 8, 9, 10}
	for _, c := range []Config{roomy(), roomy(1), roomy(2, 0), {60, 600, []int{0, 0, 1}}} {
		x := doing(t, text, c, inputs...)
		all := rest(x.Copy())
		var machines []*Machine
		d := die(4)
		machines = append(machines, x)
		for turn := 0; turn < 40*len(all); turn++ {
			y := machines[d.n(len(machines))]
			if len(machines) < 12 && d.n(40) == 0 {
				machines = append(machines, y.Copy())
			}
			n := y.Count()
			e, ok := y.Next()
			if ok != (n < len(all)) || ok && e != all[n] {
				t.Fatalf("%v: event %d is %s, want %s", c, n, told(e), told(all[n:]...))
			}
		}
		for i, y := range machines {
			wantEnd(t, text, y, len(all), false)
			if y.Heap().Last() != x.Heap().Last() || i > 0 && y.Heap() == x.Heap() {
				t.Errorf("%v: machine %d has %d identities, or the other one's heap", c, i, y.Heap().Last())
			}
		}
	}
}

// 6.2: identities of a machine and its Copy are given apart.
func TestCopyIdentities(t *testing.T) {
	x := doing(t, "var a = [];\nprint([]);\nprint(fn() {});", roomy(1))
	for range 2 {
		x.Next()
	}
	y := x.Copy()
	rest(x)
	if x.Heap().Last() != 3 || y.Heap().Last() != 1 {
		t.Errorf("last identities %d and %d", x.Heap().Last(), y.Heap().Last())
	}
	if got := told(rest(y)...); got != "O:list#2 S3 O:fn#3 D" {
		t.Errorf("%s", got)
	}
}

// 6.2: a Copy has an image of its own: what others do to that of one machine no other machine sees.
func TestCopyImage(t *testing.T) {
	const text, want = "print(1);\nprint(1);", "S1 O:1 S2 O:1 D"
	for _, looked := range []bool{false, true} {
		x := doing(t, text, roomy())
		if looked {
			x.Image()
		}
		y, z := x.Copy(), x.Copy()
		y.Image().Consts[0].N = 5
		if got := told(rest(y.Copy())...); got != "S1 O:5 S2 O:5 D" {
			t.Errorf("a copy of what was changed: %s", got)
		}
		clear(y.Image().Funcs[0].Code)
		for _, m := range []*Machine{x, z} {
			if got := told(rest(m)...); got != want || m.Image().Consts[0].N != 1 {
				t.Errorf("another machine, image looked at %v: %s, want %s", looked, got, want)
			}
		}
		if x.Image() == y.Image() || x.Image() == z.Image() || x.Image() != x.Image() {
			t.Error("two machines have one image, or one has two")
		}
	}
}

// A Copy behind Thrown that nobody caught tells Dead, too.
func TestCopyOfTheDying(t *testing.T) {
	x := doing(t, "fn f() { throw [1, \"text\"]; } f();", roomy(1))
	for e, _ := x.Next(); e.Kind != api.Thrown; e, _ = x.Next() {
	}
	y := x.Copy()
	if got := told(rest(y)...); got != "X:list#1" {
		t.Errorf("a copy: %s", got)
	}
	if x.Ended() || told(rest(x)...) != "X:list#1" {
		t.Errorf("the machine itself: behind %d events", x.Count())
	}
}
