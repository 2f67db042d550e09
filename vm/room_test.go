package vm

import (
	"fmt"
	"slices"
	"strings"
	"testing"

	"rewind/api"
	"rewind/code"
)

// row is a list of eight, 9 cells, that leads to another one.
const row = "[l, 1, 2, 3, 4, 5, 6, 7]"

// rows is a program that makes so many lists, each of which leads to the one ahead of it, and prints the last one.
func rows(many int) string {
	return "var l = nil;\n" + strings.Repeat("l = "+row+";\n", many) + "print(l);"
}

// wantRun: a program in some room must tell the first events of what it does, and whether it is over for want of room.
func wantRun(t *testing.T, text string, c Config, count int, full bool) {
	t.Helper()
	all := rest(doing(t, text, roomy()))
	x := doing(t, text, c)
	got := rest(x)
	if len(got) != count || !slices.Equal(got, all[:count]) {
		t.Errorf("%.200q, %v: %s, want the first %d of %s", text, c, told(got...), count, told(all...))
	}
	wantEnd(t, fmt.Sprintf("%.200q, %v", text, c), x, count, full)
}

// 6.1: nurseries of few cells.
func TestSmallNurseries(t *testing.T) {
	wantRun(t, "print(1); print(\"a\" + \"b\");", Config{1, 1, nil}, 5, false)
	// A list without values takes a cell: one at a time has room.
	wantRun(t, "var a = []; a = []; var b = []; print(b); print(a); print(a + b);", Config{1, 3, nil}, 10, false)
	wantRun(t, "var a = []; a = []; var b = []; print(b); print(a); print(a + b);", Config{1, 2, nil}, 10, false)
	wantRun(t, "var a = []; a = []; var b = []; print(b); print(a); print([a, b]);", Config{2, 2, nil}, 8, true)
	wantRun(t, "var a = [1];", Config{1, 100, nil}, 1, true)
	wantRun(t, "class A {} print(new A()); class B { field p; } print(new B());", Config{1, 100, nil}, 3, true)
	wantRun(t, "class A {} print(new A()); class B { field p; } print(new B());", Config{2, 100, nil}, 5, false)
	wantRun(t, "print(fn() {}); var a = 1; print(fn() { return a; });", Config{1, 100, nil}, 3, true)
	wantRun(t, "print(fn() {}); var a = 1; print(fn() { return a; });", Config{2, 100, nil}, 6, false)
	wantRun(t, "while (true) { [[], [], []]; }", Config{4, 10, nil}, api.MaxEvents, false)
	wantRun(t, "while (true) { [[], [], []]; }", Config{3, 10, nil}, 2, true)
}

// 6.1: what takes most cells is a list of MaxList.
func TestGreatestList(t *testing.T) {
	text := "var l = [1, 2, 3, 4, 5]; l = l + l; l = l + l + l + l + l; print(len(l)); print(l[49]);"
	wantRun(t, text, Config{50, 1000, nil}, 3, true)
	for _, nursery := range []int{51, 59, 60} {
		wantRun(t, text, Config{nursery, 200, nil}, 8, false)
		wantRun(t, text, Config{nursery, 200, []int{2, 1}}, 8, false)
	}
}

// fielded is a program with an instance of so many fields, of which some are set, and then printed; others are nil yet.
func fielded(many int) string {
	s, above := "", ""
	name := func(i int) string { return string([]rune{rune('a' + i/26), rune('a' + i%26), '_'}) }
	for i := range many {
		if i%api.MaxParts == 0 {
			class := fmt.Sprint("C", i/api.MaxParts)
			s += "class " + class + above + " {"
			above = " < " + class
		}
		s += "field " + name(i) + ";"
		if i%api.MaxParts == api.MaxParts-1 || i == many-1 {
			s += "}"
		}
	}
	s += "var a=new C" + fmt.Sprint((many-1)/api.MaxParts) + "();"
	for _, i := range []int{0, 57, 58, 59, 60, 117, 118, many - 1} {
		if i < many {
			s += "a." + name(i) + "=[" + fmt.Sprint(i) + "];"
		}
	}
	for _, i := range []int{0, 1, 56, 57, 58, 59, 60, 116, 117, 118, 119, many - 2, many - 1} {
		if i < many {
			s += "print(a." + name(i) + ");"
		}
	}
	return s + "print(a." + name(many-1) + "[0]);print(a);print([]);"
}

// 6.1: a nursery of 60 cells is enough for each instance, however many fields its classes have; of 59 for one of 58.
func TestManyFields(t *testing.T) {
	for many, want := range map[int]string{
		2:   "O:list#2 O:list#3 O:list#2 O:list#3 O:1 O:C0#1 O:list#4",
		58:  "O:list#2 O:nil O:nil O:list#4 O:nil O:list#4 O:57 O:C7#1 O:list#5",
		59:  "O:list#2 O:nil O:nil O:list#3 O:list#5 O:list#3 O:list#5 O:58 O:C7#1 O:list#6",
		60:  "O:list#2 O:nil O:nil O:list#3 O:list#4 O:list#6 O:list#4 O:list#6 O:59 O:C7#1 O:list#7",
		61:  "O:list#2 O:nil O:nil O:list#3 O:list#4 O:list#5 O:list#7 O:list#5 O:list#7 O:60 O:C7#1 O:list#8",
		118: "O:list#2 O:nil O:nil O:list#3 O:list#4 O:list#5 O:list#6 O:nil O:list#8 O:nil O:list#8 O:117 O:C14#1 O:list#9",
		119: "O:list#2 O:nil O:nil O:list#3 O:list#4 O:list#5 O:list#6 O:nil O:list#7 O:list#9 O:list#7 O:list#9 O:118 O:C14#1 O:list#10",
		190: "O:list#2 O:nil O:nil O:list#3 O:list#4 O:list#5 O:list#6 O:nil O:list#7 O:list#8 O:nil O:nil O:list#9 O:189 O:C23#1 O:list#10",
	} {
		text := fielded(many)
		for _, c := range []Config{roomy(), {60, 300, nil}, {60, 300, []int{1}}, {60, 300, []int{2}}, {60, 300, []int{2, 1}}} {
			x := doing(t, text, c)
			var got []string
			for _, e := range rest(x) {
				if e.Kind != api.Stop && e.Kind != api.Done {
					got = append(got, told(e))
				}
			}
			if strings.Join(got, " ") != want || x.Full() {
				t.Errorf("%d fields, %v: %v, want %s, full %v", many, c, got, want, x.Full())
			}
		}
		if x := doing(t, text, Config{59, 300, nil}); len(rest(x)) == 1 != (many > 58) || x.Full() != (many > 58) {
			t.Errorf("%d fields, a nursery of 59: full %v", many, x.Full())
		}
	}
}

// 6.1: an old part that is just full, and one that is a cell too small. Six rows are in the nursery when the seventh finds no room: all of them are used.
func TestOldJustFull(t *testing.T) {
	for rounds := 1; rounds < 4; rounds++ {
		text, full := rows(6*rounds+1), 54*rounds
		// The last row is made by the last statement but one.
		all := 6*rounds + 5
		for _, c := range []Config{{54, full, nil}, {60, full, nil}, {62, full, nil}, {54, full + 1, nil}, {60, full, []int{0}}} {
			wantRun(t, text, c, all, false)
		}
		for _, c := range []Config{{54, full - 1, nil}, {60, full - 1, nil}, {62, full - 1, nil}} {
			wantRun(t, text, c, all-3, true)
		}
		// A nursery that has seven rows needs less.
		wantRun(t, text, Config{63, max(1, full-54+9*rounds-9), nil}, all, false)
	}
}

// 6.1: if a Minor has no room, a Major has it, where enough is used no more.
func TestMajorMakesRoom(t *testing.T) {
	// Of the first six rows only the last two are used when the seventh is made; of the first twelve in the old part only six.
	text := "var l = nil;\n" + strings.Repeat("l = "+row+";\n", 5) + "l[0] = nil; l = " + row + ";\n" + "l = " + row + "; print(l);"
	all := 2 + 5 + 2 + 1 + 2
	wantRun(t, text, Config{60, 18, nil}, all, false)
	wantRun(t, text, Config{60, 53, nil}, all, false)
	wantRun(t, text, Config{60, 17, nil}, all-3, true)
	for _, c := range []struct{ old, minors, majors int }{{54, 1, 0}, {53, 0, 1}, {18, 0, 1}} {
		x := doing(t, text, Config{60, c.old, nil})
		rest(x)
		if _, _, minors, majors := x.Heap().Use(); minors != c.minors || majors != c.majors {
			t.Errorf("an old part of %d: %d Minors, %d Majors, want %d, %d", c.old, minors, majors, c.minors, c.majors)
		}
	}
}

// 6.1: a collection that Collect asks for, and that has no room, changes nothing; while there is room for what is made, all goes on.
func TestCollectWithoutRoom(t *testing.T) {
	for _, collect := range [][]int{{1}, {2}, {1, 2}} {
		x := doing(t, rows(6), Config{54, 8, collect})
		if got, want := told(rest(x)...), "S1 S2 S3 S4 S5 S6 S7 S8 O:list#6 D"; got != want || x.Full() {
			t.Errorf("%v: %s, want %s, full %v", collect, got, want, x.Full())
		}
		if nursery, old, minors, majors := x.Heap().Use(); nursery != 54 || old != 0 || minors+majors != 2 {
			t.Errorf("%v: %d, %d cells, %d Minors, %d Majors", collect, nursery, old, minors, majors)
		}
		wantRun(t, rows(7), Config{54, 8, collect}, 8, true)
	}
}

// 6.1: never for want of room, if the nursery has 60 cells, and the old part as many as all that was made.
func TestNeverFull(t *testing.T) {
	fifty := "var l = [1, 2, 3, 4, 5]; l = l + l; l = l + l + l + l + l; "
	for _, text := range []string{
		sample, rows(9), fielded(59), fielded(140),
		fifty + "var i = 0; while (i < 40) { l = l + []; i = i + 1; }",
		fifty + "var i = 0; while (i < 40) { var j = i; var k = fn() { return [j, l]; }; l = [k] + [l]; i = i + 1; }",
		"var l = []; while (true) { var a = l; l = [fn() { return a; }]; }",
		"fn f(a) { return [a, f([a, fn() { return a; }])]; } while (true) { try { f(1); } catch (e) { [e]; } }",
	} {
		whole := doing(t, text, roomy(), 1, 2, 3)
		want := rest(whole)
		made, _, _, _ := whole.Heap().Use()
		for _, collect := range [][]int{nil, {1}, {2}, {0, 1}, {1, 2}, {0, 0, 0, 0, 0, 1}, {0, 0, 0, 2, 0, 0, 0, 0}} {
			x := doing(t, text, Config{60, made, collect}, 1, 2, 3)
			if got := rest(x); !slices.Equal(got, want) || x.Full() {
				t.Errorf("%.200q, %v, %d cells: full %v, %.300s, want %.300s", text, collect, made, x.Full(), told(got...), told(want...))
			}
		}
	}
}

// 6.1: it is over, as for want of room, if so many instructions make no event.
func TestQuiet(t *testing.T) {
	for text, want := range map[string]string{
		"Jump 0":                      "",
		"Stop 1;Jump 1":               "S1",
		"Stop 1;CallFn 1;Pop;Jump 1":  "S1",
		"Stop 1;List 0;Pop;Jump 1":    "S1",
		"Stop 1;Nil;Store 0;Jump 1":   "S1",
		"Stop 1;True;Unless 0;Jump 1": "S1",
	} {
		x := started(t, byHand(function(0, 1, text), function(0, 0, "Nil;Return")), Config{60, 60, nil})
		if got := told(rest(x)...); got != want {
			t.Errorf("%s: %s, want %s", text, got, want)
		}
		wantEnd(t, text, x, len(strings.Fields(want)), true)
	}
}

// 6.1: the 100,000th instruction may make an event, the next one makes none any more; behind an event they are counted anew.
func TestQuietEdge(t *testing.T) {
	// 2 instructions, 12,499 rounds of 8, some more that go to the next one, then a Stop; behind it once more.
	const rounds, fixed = 12_499, 2 + 8*12_499
	for more, want := range map[int]string{3: "S9 S9 S9", 4: "S9 S9 S9", 5: "S9", 6: "", 7: ""} {
		text := "Push;Store;Load;Push 1;Sub;Store;Load;Push 2;Same;Unless 2;"
		for i := range more {
			text += fmt.Sprint("Jump ", 11+i, ";")
		}
		m := &code.Image{
			Consts: []code.Const{{N: rounds}, {N: 1}, {N: 0}},
			Funcs:  []code.Func{function(0, 1, text+"Stop 9;Jump 0")},
		}
		x := started(t, m, roomy())
		var got []api.Event
		for range 3 {
			if e, ok := x.Next(); ok {
				got = append(got, e)
			}
		}
		if told(got...) != want || x.Full() != (len(got) < 3) || x.Ended() != x.Full() {
			t.Errorf("%d instructions ahead of the first Stop: %s, full %v, want %s", fixed+more, told(got...), x.Full(), want)
		}
	}
}
