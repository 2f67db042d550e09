package inspect

import (
	"fmt"
	"strings"
	"testing"

	"rewind/api"
	"rewind/vm"
)

// 8.2: objects to which variables lead are told by identities, rising, with what they have: of an instance its fields, those of the classes above first, of a list its elements, of a function nothing.
func TestObjects(t *testing.T) {
	checkLast(t, []last{
		{"1;", ""},
		{"var a = 1; var b = \"list#1\"; var c = nil;\nprint(a);", ""},
		{"var a = [];\n1;", "list#1: "},
		{"var a = [5, nil, true, \"t\"];\n1;", "list#1: 0 5, 1 nil, 2 true, 3 t"},
		{"var a = fn() {};\n1;", "fn#1: "},
		{"class A {}\nvar a = new A();\n1;", "A#1: "},
		{"class A { field p; field q; }\nvar a = new A();\na.q = -3;\n1;", "A#1: p nil, q -3"},
		{"class C < B { field u; field a; }\nclass B < A {}\nclass A { field z; field y; init(n) { this.y = n; } }\nvar c = new C(4);\nc.a = [];\n1;", "C#1: z nil, y 4, u nil, a list#2; list#2: "},
		{"class A { field p; m() {\nprint(this); } }\nvar a = new A(); a.p = fn() {}; a.m();", "A#1: p fn#2; fn#2: "},
		// Elements that are lists, and the other kinds.
		{"class A { field p; }\nvar a = [[1], [[]], new A(), fn() {}];\n1;", "list#1: 0 1; list#2: ; list#3: 0 list#2; A#4: p nil; fn#5: ; list#6: 0 list#1, 1 list#3, 2 A#4, 3 fn#5"},
	})
}

// 8.2: identities rise, in whatever order the variables stand, and whatever leads to whom.
func TestObjectsInOrder(t *testing.T) {
	checkLast(t, []last{
		{"var a = nil; var b = nil; var c = [1]; var d = [2]; b = c; a = d; c = [3];\n1;", "list#1: 0 1; list#2: 0 2; list#3: 0 3"},
		{"var a = nil; var b = [[[2]]]; a = b;\n1;", "list#1: 0 2; list#2: 0 list#1; list#3: 0 list#2"},
		{"var a = nil; var b = [1]; var c = [b];\nvar d = fn() {}; a = [d, c]; d = nil; c = nil; b = nil;\n1;", "list#1: 0 1; list#2: 0 list#1; fn#3: ; list#4: 0 fn#3, 1 list#2"},
		{"var l = []; var i = 0; while (i < 11) { l = l + [[]]; i = i + 1; }\n1;", manyLists()},
	})
}

// manyLists are the objects behind 11 times that a list of no elements was laid behind those of another one: by numbers, not by texts.
func manyLists() string {
	var l, has []string
	for i := range 11 {
		l = append(l, fmt.Sprintf("list#%d: ", 3*i+2))
		has = append(has, fmt.Sprintf("%d list#%d", i, 3*i+2))
	}
	return strings.Join(append(l, "list#34: "+strings.Join(has, ", ")), "; ")
}

// 8.2: each object is told once, whatever leads to it: itself, each other, several variables.
func TestObjectsOnce(t *testing.T) {
	checkLast(t, []last{
		{"var a = [0]; a[0] = a;\n1;", "list#1: 0 list#1"},
		{"var a = [0]; var b = [a, a]; a[0] = b; var c = a; a = 1;\n1;", "list#1: 0 list#2; list#2: 0 list#1, 1 list#1"},
		{"class A { field p; field q; }\nvar a = new A(); a.p = a; a.q = new A(); a.q.q = a;\n1;", "A#1: p A#1, q A#2; A#2: p nil, q A#1"},
		{"var a = [1]; var b = a; var c = [a, b];\n1;", "list#1: 0 1; list#2: 0 list#1, 1 list#1"},
		{"fn f(x, y) {\nprint(x); }\nvar a = [1]; f(a, [a]);", "list#1: 0 1; list#2: 0 list#1"},
	})
}

// 8.2: a function leads nowhere: what it alone holds is not there, nor what nothing leads to any more, nor what lies in variables that are not there.
func TestNoObjects(t *testing.T) {
	checkLast(t, []last{
		{"var f = nil; if (true) { var a = [1]; f = fn() { return a; }; }\n1;", "fn#2: "},
		{"class A { m() { return fn() { return this; }; } }\nvar f = new A().m();\n1;", "fn#2: "},
		{"var f = nil; if (true) { var a = [1]; var b = [fn() { return a; }, a]; f = b; }\n1;", "list#1: 0 1; fn#2: ; list#3: 0 fn#2, 1 list#1"},
		{"var a = [[1]]; a = 2;\n1;", ""},
		{"var a = [[1], [2]]; a[0] = nil;\n1;", "list#2: 0 2; list#3: 0 nil, 1 list#2"},
		{"if (true) { var a = [1]; print(a); }\n2;", ""},
		{"print([1]);\n2;", ""},
		{"fn f(x) { var y = [x]; return 1; }\nvar a = f([1]);\n2;", ""},
		{"try { throw [1]; } catch (e) { print(e); }\n2;", ""},
		{"var i = 0; while (i < 2) { var l = [i]; i = i + 1; }\n2;", ""},
	})
}

// 8.2: objects behind each event are those of all functions that are under way, by the variables that Frames tells.
func TestObjectsOnTheWay(t *testing.T) {
	text := "class A { field p;\ninit(x) {\nthis.p = x; } }\nfn f(u) {\nvar v = [u];\nthrow v; }\nvar a = new A([1]);\ntry { var b = [a];\nf(b); } catch (e) {\nprint(e); }\nf(fn() { return a; });"
	want := []string{
		"-", "S7",
		"S3 list#1: 0 1; A#2: p nil",
		"S8 list#1: 0 1; A#2: p list#1",
		"S8 list#1: 0 1; A#2: p list#1",
		"S9 list#1: 0 1; A#2: p list#1; list#3: 0 A#2",
		"S5 list#1: 0 1; A#2: p list#1; list#3: 0 A#2",
		"S6 list#1: 0 1; A#2: p list#1; list#3: 0 A#2; list#4: 0 list#3",
		"T6:list#4 list#1: 0 1; A#2: p list#1",
		"C9 list#1: 0 1; A#2: p list#1",
		"S10 list#1: 0 1; A#2: p list#1; list#3: 0 A#2; list#4: 0 list#3",
		"O:list#4 list#1: 0 1; A#2: p list#1; list#3: 0 A#2; list#4: 0 list#3",
		"S11 list#1: 0 1; A#2: p list#1",
		"S5 list#1: 0 1; A#2: p list#1; fn#5:",
		"S6 list#1: 0 1; A#2: p list#1; fn#5: ; list#6: 0 fn#5",
		"T6:list#6", "X:list#6",
	}
	for _, room := range []vm.Config{roomy(), tight(1), tight(2, 0)} {
		var got []string
		for _, s := range sights(t, started(t, compiled(t, text), room)) {
			got = append(got, strings.TrimSpace(s.event+" "+s.objects))
		}
		if lines(got...) != lines(want...) {
			t.Errorf("in %v:\n%s\nwant\n%s", room, lines(got...), lines(want...))
		}
	}
}

// manyFields is a program whose last class has so many fields, by the classes above it, and an instance of it, whose first, last and some other fields are set.
func manyFields(fields int) string {
	var b strings.Builder
	class := 0
	for n := range fields {
		if n%api.MaxParts == 0 {
			if class++; class > 1 {
				fmt.Fprintf(&b, "}class C%d<C%d{", class, class-1)
			} else {
				b.WriteString("class C1{")
			}
		}
		fmt.Fprintf(&b, "field f%d;", n)
	}
	fmt.Fprintf(&b, "}\nvar o=new C%d();", class)
	for n := range fields {
		if n%29 == 0 || n == fields-1 {
			fmt.Fprintf(&b, "o.f%d=[%d];", n, n)
		}
	}
	return b.String() + "\n1;"
}

// 8.2: an instance has all its fields, however many these are, in their order.
func TestManyFields(t *testing.T) {
	for _, many := range []int{1, 8, 9, 57, 58, 59, 60, 61, 117, 118, 119, 120, 177, 178, 190} {
		class := (many + api.MaxParts - 1) / api.MaxParts
		last := many - 1
		var has, lists []string
		for n := range many {
			is := "nil"
			if n%29 == 0 || n == last {
				is = fmt.Sprint("list#", len(lists)+2)
				lists = append(lists, fmt.Sprint(is, ": 0 ", n))
			}
			has = append(has, fmt.Sprint("f", n, " ", is))
		}
		want := fmt.Sprint("C", class, "#1: ", strings.Join(has, ", "), "; ", strings.Join(lists, "; "))
		for _, room := range []vm.Config{roomy(), tight(), tight(1), tight(2)} {
			all := sights(t, started(t, compiled(t, manyFields(many)), room))
			if got := all[len(all)-2].objects; got != want {
				t.Errorf("%d fields, in %v:\n%s\nwant\n%s", many, room, got, want)
			}
		}
	}
}

// 8.2: a list of as many elements as may be.
func TestManyElements(t *testing.T) {
	text := "var a = [];\nwhile (len(a) < 50) { a = a + [len(a) * 2]; }\n1;"
	var has []string
	for i := range api.MaxList {
		has = append(has, fmt.Sprint(i, " ", 2*i))
	}
	checkLast(t, []last{{text, "list#101: " + strings.Join(has, ", ")}})
}

// 8.2, P1: objects that lie within each other far deeper than calls may: each is told.
func TestDeepObjects(t *testing.T) {
	deep := strings.Repeat("[", 20) + "l" + strings.Repeat("]", 20)
	x := started(t, compiled(t, "var l = [];\nwhile (true) { l = "+deep+"; }"), roomy(1, 0, 0, 2))
	for range api.MaxEvents - 1 {
		x.Next()
	}
	l, err := Objects(x)
	if want := 20*((api.MaxEvents-1)/2-1) + 1; err != nil || len(l) != want {
		t.Fatalf("%d objects, error %v, want %d", len(l), err, want)
	}
	for i, o := range l {
		want := Object{Id: i + 1, Is: fmt.Sprint("list#", i+1)}
		if i > 0 {
			want.Has = []Var{{"0", fmt.Sprint("list#", i)}}
		}
		if o.Id != want.Id || o.Is != want.Is || vars(o.Has) != vars(want.Has) {
			t.Fatalf("%+v, want %+v", o, want)
		}
	}
}
