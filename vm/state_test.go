package vm

import (
	"fmt"
	"reflect"
	"slices"
	"strings"
	"testing"

	"rewind/api"
	"rewind/code"
	"rewind/heap"
)

// lines are those of the functions that are under way, the first one first.
func lines(x *Machine) string {
	var l []int
	for _, f := range x.State().Frames {
		l = append(l, f.Line)
	}
	return fmt.Sprint(l)
}

// story are a machine's events, behind each the lines of what is under way.
func story(x *Machine) string {
	var l []string
	rest(x, func(e api.Event) { l = append(l, told(e)+lines(x)) })
	return strings.Join(l, " ")
}

// 6.2: which functions are under way behind each kind of event, and their lines.
func TestFrames(t *testing.T) {
	for text, want := range map[string]string{
		"":                  "D[0]",
		"1;\nprint(2);":     "S1[1] S2[2] O:2[2] D[2]",
		"throw 1;":          "S1[1] T1:1[1] X:1[1]",
		"print(1);\n1 / 0;": "S1[1] O:1[1] S2[2] T2:zero[2] X:zero[2]",
		// While they are called, and no longer.
		"fn f() {\nprint(1);\n}\nf();\nf();":                                     "S4[4] S2[4 2] O:1[4 2] S5[5] S2[5 2] O:1[5 2] D[5]",
		"fn f(n) {\nif (n == 0) { return 0; }\nreturn f(n - 1); }\nprint(f(1));": "S4[4] S2[4 2] S3[4 3] S2[4 3 2] S2[4 3 2] O:0[4] D[4]",
		"print(fn() {\nreturn fn() {\nprint(1); }; }()());":                      "S1[1] S2[1 2] S3[1 3] O:1[1 3] O:nil[1] D[1]",
		// New, Send, Super.
		"class A { init() {\n1; } m() {\n2; } }\nclass B < A { m() {\nsuper.m();\n3; } }\nnew B().m();": "S7[7] S2[7 2] S5[7 5] S3[7 5 3] S6[7 6] D[7]",
		// Behind Thrown those that do not catch it are gone; a line stays, until Caught is told.
		"fn f() {\nthrow 5;\n}\n\ntry {\nf();\n}\ncatch (e) {\nprint(e);\n}":                                     "S5[5] S6[6] S2[6 2] T2:5[6] C8[8] S9[9] O:5[9] D[9]",
		"fn h() {\nthrow 1; }\nfn g() {\nh(); }\nfn f() {\ntry {\ng(); }\ncatch (e) {\nprint(e); }\n}\nf();\n2;": "S11[11] S6[11 6] S7[11 7] S4[11 7 4] S2[11 7 4 2] T2:1[11 7] C8[11 8] S9[11 9] O:1[11 9] S12[12] D[12]",
		// In the function that throws itself.
		"fn f() {\ntry {\nthrow 1; } catch (e) {\nthrow 2; }\n}\ntry {\nf(); } catch (e) {}": "S6[6] S7[7] S2[7 2] S3[7 3] T3:1[7 3] C3[7 3] S4[7 4] T4:2[7] C7[7] D[7]",
		// If nobody does, all but the program's own, behind Dead, too.
		"fn g() {\nthrow 1; }\nfn f() {\ng(); }\n\nf();":                            "S6[6] S4[6 4] S2[6 4 2] T2:1[6] X:1[6]",
		"class A { init() {\nthrow this; } }\nnew A();":                             "S3[3] S2[3 2] T2:A#1[3] X:A#1[3]",
		"try { 1; }\ncatch (e) {}\nfn f() {\nreturn nil < 1; }\n\nprint([f()][0]);": "S1[1] S1[1] S6[6] S4[6 4] T4:type[6] X:type[6]",
		// What a call itself throws is the caller's.
		"var f = fn(x) {\n1; };\nf();": "S1[1] S3[3] T3:arity[3] X:arity[3]",
	} {
		for _, room := range []Config{roomy(), roomy(2), {60, 600, []int{1}}} {
			if got := story(doing(t, text, room)); got != want {
				t.Errorf("%q:\n%s, want\n%s", text, got, want)
			}
		}
	}
}

// 6.2, 4.2: MaxCalls functions, and the program's own, are under way at most; what throws depth is the last one of them.
func TestFramesAtMost(t *testing.T) {
	x := doing(t, "fn f() {\nreturn f(); }\nf();", roomy())
	most := 0
	events := rest(x, func(e api.Event) {
		most = max(most, len(x.State().Frames))
		if e.Kind == api.Stop && len(x.State().Frames) != x.Count() {
			t.Errorf("behind %d Stops: %s", x.Count(), lines(x))
		}
	})
	if want := "S3" + strings.Repeat(" S2", api.MaxCalls) + " T2:depth X:depth"; told(events...) != want || most != api.MaxCalls+1 {
		t.Errorf("%s with %d functions, want %s", told(events...), most, want)
	}
}

// 6.2, 4.2: a function that has begun no statement has line 0: when it prints, and when it throws.
func TestNoStatement(t *testing.T) {
	for text, want := range map[string]string{
		"Nil;Throw":                           "T0:nil[0] X:nil[0]",
		"True;Print;Nil;Neg;Return":           "O:true[0] T0:type[0] X:type[0]",
		"Stop 4;CallFn 1;Return":              "S4[4] O:7[4 0] T0:init[4] X:init[4]",
		"CallFn 1;Return":                     "O:7[0 0] T0:init[0] X:init[0]",
		"Stop 4;CallFn 2;Print;Nil;Return":    "S4[4] O:7[4 0 0] T0:init[4 0] O:init[4 0] O:nil[4] D[4]",
		"Stop 4;CallFn 2;Pop;CallFn 1;Return": "S4[4] O:7[4 0 0] T0:init[4 0] O:init[4 0] O:7[4 0] T0:init[4] X:init[4]",
	} {
		m := byHand(function(0, 0, text), function(0, 0, "Push 0;Print;Push 1;Throw"), function(0, 0, "CallFn 1;Return;Print;Nil;Return"))
		m.Funcs[2].Handlers = []code.Handler{{From: 0, To: 1, Target: 2}}
		if got := story(started(t, m, roomy())); got != want {
			t.Errorf("%s: %s, want %s", text, got, want)
		}
	}
	// A line is any number.
	m := byHand(function(0, 0, "Stop -3;Caught 9223372036854775807;Nil;Throw"))
	if got, want := story(started(t, m, roomy())), "S-3[-3] C9223372036854775807[9223372036854775807] T9223372036854775807:nil[9223372036854775807] X:nil[9223372036854775807]"; got != want {
		t.Errorf("%s, want %s", got, want)
	}
}

// 6.2: State tells inputs that are left, how many events and Stops there were, and whether it is over.
func TestState(t *testing.T) {
	x := doing(t, "print(input());\nprint(input() + input());\nif (true) { print(input()); }", roomy(), 5, 6, 7)
	left := map[int][]int{0: {5, 6, 7}, 1: {5, 6, 7}, 2: {6, 7}, 3: {6, 7}, 4: {}, 5: {}, 6: {}, 7: {}, 8: {}}
	stops := []int{0, 1, 1, 2, 2, 3, 4, 4, 4}
	for n := 0; ; n++ {
		s := x.State()
		if !slices.Equal(s.Inputs, left[n]) || s.Events != n || s.Stops != stops[n] || s.Ended != (n == 8) || x.Ended() != (n == 8) || x.Count() != n || x.Full() {
			t.Errorf("behind %d events: %+v, ended %v, full %v", n, s, x.Ended(), x.Full())
		}
		if _, ok := x.Next(); !ok {
			break
		}
	}
	wantEnd(t, "inputs", x, 8, false)
}

// Example 8: a variable lies in a slot, behind its statement: a value as the heap's are.
func TestSlots(t *testing.T) {
	for value, want := range map[string]heap.Value{
		"7": number(7), "nil": {}, "\"t\"": {Kind: heap.Text, S: "t"}, "1 == 1": {Kind: heap.Bool, N: 1}, "!true": {Kind: heap.Bool},
	} {
		x := doing(t, "var a = "+value+";\nprint(a);", roomy())
		x.Next()
		x.Next()
		f := x.State().Frames[0]
		v := x.Image().Funcs[f.Func].Vars[0]
		if v.Name != "a" || f.At < v.From || f.At > v.To || f.Slots[v.Slot] != want || f.Line != 2 {
			t.Errorf("%s: %+v, %+v", value, f, v)
		}
	}
}

// 8.1: behind what nobody catches no variable is there: the place is none of theirs.
func TestNoPlace(t *testing.T) {
	x := doing(t, "var a = 1; fn f(b) { throw b; } try { throw 1; } catch (e) { var c = [1, f(e)]; }", roomy())
	rest(x, func(e api.Event) {
		f := x.State().Frames[0]
		there := slices.ContainsFunc(x.Image().Funcs[0].Vars, func(v code.Var) bool { return v.From <= f.At && f.At <= v.To })
		// The first Stop is ahead of all variables; the last Thrown, and Dead, behind them.
		if there != (x.Count() > 1 && x.Count() < 8) {
			t.Errorf("behind %d events, %s: variables %v", x.Count(), told(e), there)
		}
		if e.Kind == api.Dead && len(f.Stack) > 0 {
			t.Errorf("%v is on the stack yet", f.Stack)
		}
	})
	wantEnd(t, "dead", x, 9, false)
}

// What Frame's Holds and Makes are: the closure that was called, and what New makes.
func TestHoldsAndMakes(t *testing.T) {
	x := doing(t, "class A { field p; init() { var l = [1]; this.p = fn() {\nprint(l); }; } }\n(new A().p)();", roomy(2))
	seen := ""
	rest(x, func(e api.Event) {
		for _, f := range x.State().Frames {
			seen += x.Show(f.Holds) + " " + x.Show(f.Makes) + ","
		}
		seen += told(e) + ";"
	})
	// The program's own, init twice, the Lambda twice, the program's own.
	want := "nil nil,S3;nil nil,nil A#1,S1;nil nil,nil A#1,S1;nil nil,fn#3 nil,S2;nil nil,fn#3 nil,O:list#2;nil nil,D;"
	if seen != want {
		t.Errorf("%s, want %s", seen, want)
	}
}

// P4: what State tells is the caller's: whatever is done with it, the machine goes on as it would.
func TestStateIsFresh(t *testing.T) {
	want := told(rest(doing(t, sample, Config{60, 6000, []int{1}}, 4, 5, 6))...)
	x := doing(t, sample, Config{60, 6000, []int{1}}, 4, 5, 6)
	got := rest(x, func(api.Event) {
		s, again := x.State(), x.State()
		if !reflect.DeepEqual(s, again) {
			t.Fatalf("%+v and %+v", s, again)
		}
		for i := range s.Frames {
			f := &s.Frames[i]
			for k := range f.Slots {
				f.Slots[k] = heap.Value{Kind: heap.Text, S: "mine"}
			}
			clear(f.Stack)
			_, _ = append(f.Slots, number(1)), append(f.Stack, number(1), number(2))
			*f = Frame{}
		}
		_ = append(s.Frames[:0], Frame{})
		clear(s.Inputs)
		_ = append(s.Inputs, 9)
		if now := x.State(); !reflect.DeepEqual(now, again) {
			t.Fatalf("%+v and %+v", now, again)
		}
	})
	if told(got...) != want {
		t.Errorf("%s, want %s", told(got...), want)
	}
}

// 6.2: Heap and Image are the machine's own, from its beginning to its end.
func TestHeapAndImage(t *testing.T) {
	m := compiled(t, sample)
	x := started(t, m, roomy(1, 2), 1, 2, 3)
	h, image := x.Heap(), x.Image()
	last := 0
	rest(x, func(e api.Event) {
		if x.Heap() != h || x.Image() != image || h.Last() < last {
			t.Errorf("behind %v it has others", e)
		}
		last = h.Last()
	})
	if last < 10 || !reflect.DeepEqual(image, m) || image == m {
		t.Errorf("%d identities, %v", last, image)
	}
}

// 6.2: what 4.3 calls objects are the heap's but Boxes, with their identities.
func TestObjectsAreTheHeaps(t *testing.T) {
	x := doing(t, "class A { field p; }\nvar a = 1; var b = [fn() { return a; }, new A(), [2]];\nb[1].p = b;\nprint(b);", roomy(1))
	rest(x)
	h := x.Heap()
	if !slices.Equal(h.Ids(), []int{1, 2, 3, 4}) || h.Last() != 4 {
		t.Fatalf("identities %v, last %d", h.Ids(), h.Last())
	}
	for id, want := range map[int][2]int{1: {heap.Closure, 1}, 2: {heap.Instance, 1}, 3: {heap.Array, 1}, 4: {heap.Array, 3}} {
		at, _ := h.At(id)
		if h.Kind(at) != want[0] || h.Size(at) != want[1] || h.Kind(at) != heap.Closure && h.Tag(at) != 0 {
			t.Errorf("identity %d: kind %d, size %d, tag %d", id, h.Kind(at), h.Size(at), h.Tag(at))
		}
	}
	instance, _ := h.At(2)
	list, _ := h.At(4)
	if v, err := h.Get(instance, 0); err != nil || v != ref(list) || h.Tag(instance) != 0 {
		t.Errorf("a field is %v, error %v", v, err)
	}
	closure, _ := h.At(1)
	if box, _ := h.Get(closure, 0); h.Kind(box.N) != heap.Box || h.Id(box.N) != 0 || x.Image().Funcs[h.Tag(closure)].Name != "fn" {
		t.Errorf("a closure of %d holds %v", h.Tag(closure), box)
	}
}
