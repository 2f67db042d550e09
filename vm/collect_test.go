package vm

import (
	"fmt"
	"slices"
	"strings"
	"testing"

	"rewind/api"
)

// 6.1: at the k-th Stop the heap is collected by the k-th number of Collect, round and round, and at no other event; ahead of its event's being told.
func TestCollect(t *testing.T) {
	text := "fn f(n) { var l = [n]; if (n == 0) { throw l; } return [f(n - 1)]; }\nvar i = 0; while (i < 9) { var a = [[i]]; i = i + 1; try { f(2); } catch (e) { print(e); } }"
	want := rest(doing(t, text, roomy()))
	for _, collect := range [][]int{{}, {0}, {1}, {2}, {0, 1}, {1, 0}, {2, 1}, {0, 0, 2}, {0, 1, 2, 1}, {1, 2, 2, 0, 0, 1, 2}, append(make([]int, 1000), 2)} {
		x := doing(t, text, roomy(collect...))
		var asked [3]int
		stops := 0
		got := rest(x, func(e api.Event) {
			by := 0
			if e.Kind == api.Stop && len(collect) > 0 {
				by = collect[stops%len(collect)]
				asked[by]++
			}
			if e.Kind == api.Stop {
				stops++
			}
			nursery, _, minors, majors := x.Heap().Use()
			if minors != asked[1] || majors != asked[2] || by > 0 && nursery > 0 {
				t.Fatalf("%v, behind %d Stops: %d Minors, %d Majors, want %v; %d cells in the nursery", collect, stops, minors, majors, asked[1:], nursery)
			}
		})
		if !slices.Equal(got, want) {
			t.Errorf("%v: %s, want %s", collect, told(got...), told(want...))
		}
		if stops != x.State().Stops || stops < 100 {
			t.Errorf("%v: %d Stops, told %d", collect, stops, x.State().Stops)
		}
	}
}

// 6.1: 1 is a Minor, 2 a Major: what was moved once, and is used no more, is gone behind a Major alone.
func TestMinorAndMajor(t *testing.T) {
	text := "var a = [1];\na = [2];\na = [3];\n4;"
	for name, want := range map[string]string{
		"[]":        "[] [1] [1 2] [1 2 3]",
		"[0]":       "[] [1] [1 2] [1 2 3]",
		"[1]":       "[] [1] [1 2] [1 2 3]",
		"[2]":       "[] [1] [2] [3]",
		"[0 0 1]":   "[] [1] [2] [2 3]",
		"[0 0 2]":   "[] [1] [2] [2 3]",
		"[0 0 0 1]": "[] [1] [1 2] [3]",
		"[0 1 0 2]": "[] [1] [1 2] [3]",
		"[0 1 0 1]": "[] [1] [1 2] [1 3]",
	} {
		var collect []int
		for _, s := range strings.Fields(strings.Trim(name, "[]")) {
			collect = append(collect, int(s[0]-'0'))
		}
		x := doing(t, text, roomy(collect...))
		var got []string
		rest(x, func(e api.Event) {
			if e.Kind == api.Stop {
				got = append(got, fmt.Sprint(x.Heap().Ids()))
			}
		})
		if strings.Join(got, " ") != want {
			t.Errorf("Collect %s: %v, want %s", name, got, want)
		}
	}
}

// 6.1: all that is in use stays, wherever it lies: in variables, in boxes, in what closures hold, on stacks, in what New makes, in what is thrown.
func TestKept(t *testing.T) {
	pause := "fn pause() { 1; return 0; } "
	checkDoes(t, []does{
		{pause + "print([[1], pause(), [2]][0][0] + [[3]][pause()][0]);", "S1 S1 S1 S1 S1 O:4 D"},
		{pause + "var a = [5]; var f = fn() { pause(); return a; }; a = f(); pause(); print(f()[0]);", "S1 S1 S1 S1 S1 S1 S1 S1 S1 S1 S1 S1 S1 S1 S1 O:5 D"},
		{pause + "fn g(l, p, k) { pause(); return l + k; } print(len(g([1], pause(), [2, 3])));", "S1 S1 S1 S1 S1 S1 S1 O:3 D"},
		{"class A { field p; init(x) { 1; this.p = x; 2; } } print(new A([[7]]).p[0][0]);", "S1 S1 S1 S1 O:7 D"},
		{"class A { init() { 1; } m() { 1; return this; } } print(new A().m());", "S1 S1 S1 S1 O:A#1 D"},
		{"fn f() { 1; throw [[8]]; } try { f(); } catch (e) { 1; print(e[0][0]); 2; print(e); }", "S1 S1 S1 S1 T1:list#2 C1 S1 S1 O:8 S1 S1 O:list#2 D"},
		{"fn f(a) { return fn() { 1; return fn() { 2; return a; }; }; } print(f([[9]])()()[0][0]);", "S1 S1 S1 S1 S1 S1 O:9 D"},
		{"class A { field p; m() { return fn() { 1; return this; }; } } var a = new A(); a.p = [a]; print(a.m()().p[0] == a);", "S1 S1 S1 S1 S1 S1 O:true D"},
	})
}

// 6.1: collections are not seen: identities, what is shown, and what is told are the same, whenever the heap is collected.
func TestCollectionsAreNotSeen(t *testing.T) {
	want := rest(doing(t, sample, roomy(), 1, 2, 3, 4))
	d := die(3)
	for range 300 {
		c := Config{Nursery: 60 + d.n(100), Old: 5000 + d.n(5000)}
		for range d.n(6) {
			c.Collect = append(c.Collect, d.n(3))
		}
		x := doing(t, sample, c, 1, 2, 3, 4)
		if got := rest(x); !slices.Equal(got, want) {
			t.Fatalf("%+v: %s, want %s", c, told(got...), told(want...))
		}
		wantEnd(t, "sample", x, len(want), false)
	}
}
