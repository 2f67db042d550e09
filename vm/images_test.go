package vm

import (
	"fmt"
	"slices"
	"strings"
	"testing"

	"rewind/api"
	"rewind/code"
)

// kinds are code that leaves a value of each kind: those of programs, then a box and a pack.
func kinds() []string {
	return []string{"Nil", "True", "False", "Push 0", "Push 4", "Push 2", "List 0", "Nil;List 1", "New 0", "New 1", "Closure 1", "Nil;Box 0;Load 0", "Nil;List 1 1", "List 0 1"}
}

// words are those that may be thrown.
const words = " type zero size index name arity depth "

// wantSome: an image, made by hand, with all of these values ahead of an operation, must print something or throw a word, and end.
func wantSome(t *testing.T, op string, leaves bool, values ...string) {
	t.Helper()
	text := strings.Join(values, ";") + ";" + op
	if leaves {
		text += ";Print"
	}
	m := byHand(function(0, 2, text+";Nil;Return"), function(0, 1, "Nil;Return"))
	if err := code.Check(m); err != nil {
		t.Fatalf("%s: no image that may be run", text)
	}
	for _, c := range []Config{roomy(), {60, 100, nil}, {2, 2, nil}, {1, 1, nil}} {
		x := started(t, m, c)
		got := told(rest(x)...)
		word := strings.TrimPrefix(got, "T0:")
		word = word[:max(0, strings.Index(word, " "))]
		thrown := strings.Contains(words, " "+word+" ") && got == "T0:"+word+" X:"+word
		printed := strings.HasSuffix(got, "D") && (strings.HasPrefix(got, "O:") == leaves)
		if !thrown && !printed && !(x.Full() && got == "" && c.Nursery < 3) {
			t.Errorf("%s in %v: %s, full %v", text, c, got, x.Full())
		}
	}
}

// 6.1: operations on values of any kind print something or throw a word.
func TestAnyValues(t *testing.T) {
	for _, v := range kinds() {
		for _, op := range []string{"Truth", "Neg", "Not", "Len", "Get 3", "Get 2", "Call", "Send 2", "Send 3", "Super 2", "Super 2 64", "Super 3 64"} {
			wantSome(t, op, true, v)
		}
		for _, op := range []string{"Pop", "Store 1", "Box 1", "StoreBox 0", "StoreBox 1", "StoreCap", "StoreCap 50 9"} {
			wantSome(t, op, false, v)
		}
		for _, w := range kinds() {
			for _, op := range []string{"Same", "Less", "Add", "Sub", "Mul", "Div", "Mod", "Elem", "Call 0 1", "Send 2 1", "Super 2 65"} {
				wantSome(t, op, true, v, w)
			}
			wantSome(t, "SetGet 3", false, v, w)
			wantSome(t, "SetGet 2", false, v, w)
			for _, u := range kinds() {
				wantSome(t, "SetElem", false, v, w, u)
			}
		}
	}
}

// 6.1: what asks for something that a value is not throws type: a box is neither a list nor an instance nor a function, and nothing else is a box.
func TestNoBox(t *testing.T) {
	for text, want := range map[string]string{
		"LoadBox 0;Print":                                             "T0:type X:type",
		"Nil;StoreBox 1":                                              "T0:type X:type",
		"Push 0;Store 0;LoadBox 0;Print":                              "T0:type X:type",
		"List 0;Store 0;LoadBox 0;Print":                              "T0:type X:type",
		"Nil;List 1;Store 0;LoadBox 0;Print":                          "T0:type X:type",
		"Nil;List 1;Store 0;Nil;StoreBox 0":                           "T0:type X:type",
		"New 0;Store 0;LoadBox 0;Print":                               "T0:type X:type",
		"Push 0;Box 0;LoadBox 0;Print":                                "O:7 D",
		"Push 0;Box 0;True;StoreBox 0;LoadBox 0;Print":                "O:true D",
		"Push 0;Box 0;Load 0;Store 1;True;StoreBox 1;LoadBox 0;Print": "O:true D",
		"Push 0;Box 0;Push 0;Box 1;True;StoreBox 1;LoadBox 0;Print":   "O:7 D",
		"Push 0;List 1 1;Store 0;LoadBox 0;Print":                     "O:7 D",
		"List 0 1;Store 0;LoadBox 0;Print":                            "T0:type X:type",
		"List 0 1;Store 0;Nil;StoreBox 0":                             "T0:type X:type",
		"List 0 1;Len;Print":                                          "T0:type X:type",
		"List 0 1;List 0 1;Add;Print":                                 "T0:type X:type",
		"List 0 1;List 0;Add;Print":                                   "T0:type X:type",
		"Nil;List 1 1;Push 4;Elem;Print":                              "T0:type X:type",
		"Nil;Box 0;Load 0;Get 3;Print":                                "T0:type X:type",
		"Nil;Box 0;Load 0;Call;Print":                                 "T0:type X:type",
		"Nil;Box 0;Load 0;Load 0;Same;Print":                          "O:true D",
		"Nil;Box 0;Load 0;Nil;Box 0;Load 0;Same;Print":                "O:false D",
		"Nil;Box 0;Load 0;Print":                                      "O: D",
		"Nil;Box 0;Load 0;Throw":                                      "T0: X:",
		// A box takes no identity.
		"Nil;Box 0;List 0;Print;List 0 1;Pop;List 0;Print": "O:list#1 O:list#2 D",
	} {
		if !strings.HasSuffix(text, "Throw") {
			text += ";Nil;Return"
		}
		wantDoes(t, text, byHand(function(0, 2, text)), want)
	}
}

// 6.1: what a closure does not hold throws type, and so does what is asked of a function that is none's closure.
func TestHolds(t *testing.T) {
	for _, c := range []struct{ main, inner, want string }{
		{"CallFn 1", "Cap;Return", "T0:type X:type"},
		{"CallFn 1", "LoadCap 3;Return", "T0:type X:type"},
		{"CallFn 1", "Nil;StoreCap;Nil;Return", "T0:type X:type"},
		{"Closure 1;Call", "Cap;Return", "T0:type X:type"},
		{"Push 0;Closure 1 1;Call", "Cap;Return", "O:7 D"},
		{"Push 0;Closure 1 1;Call", "Cap 1;Return", "T0:type X:type"},
		{"Push 0;Closure 1 1;Call", "Cap 50;Return", "T0:type X:type"},
		{"Push 0;Closure 1 1;Call", "LoadCap;Return", "T0:type X:type"},
		{"Push 0;Closure 1 1;Call", "Nil;StoreCap;Nil;Return", "T0:type X:type"},
		{"Push 0;List 1;Closure 1 1;Call", "LoadCap;Return", "T0:type X:type"},
		{"Push 0;Box 0;Load 0;Closure 1 1;Call", "LoadCap;Return", "O:7 D"},
		{"Push 0;Box 0;Load 0;Closure 1 1;Call;Pop;LoadBox 0", "True;StoreCap;Nil;Return", "O:true D"},
		{"True;Push 0;Box 0;Load 0;Closure 1 2;Call", "LoadCap 1;Return", "O:7 D"},
		// Packs.
		{"True;Push 0;List 2 1;Closure 1 1;Call", "Cap 0 2;Return", "O:7 D"},
		{"True;Push 0;List 2 1;Closure 1 1;Call", "Cap 0 1;Return", "O:true D"},
		{"True;Push 0;List 2 1;Closure 1 1;Call", "Cap 0 3;Return", "T0:type X:type"},
		{"True;Push 0;List 2 1;Closure 1 1;Call", "Cap 0 9223372036854775807;Return", "T0:type X:type"},
		{"True;Push 0;List 2;Closure 1 1;Call", "Cap 0 1;Return", "T0:type X:type"},
		{"Push 0;Closure 1 1;Call", "Cap 0 1;Return", "T0:type X:type"},
		{"Push 0;Closure 1 1;Call", "Cap 0 -1;Return", "O:7 D"},
		{"Push 0;Closure 1 1;Call", "Cap 0 -9223372036854775808;Return", "O:7 D"},
		{"Push 0;Box 0;Load 0;List 1 1;Closure 1 1;Call", "LoadCap 0 1;Return", "O:7 D"},
		{"Push 0;Box 0;Load 0;List 1 1;Closure 1 1;Call;Pop;LoadBox 0", "True;StoreCap 0 1;Nil;Return", "O:true D"},
		// What is held is there in calls of it alone.
		{"Push 0;Closure 1 1;Call", "CallFn 2;Return", "T0:type X:type"},
	} {
		m := byHand(function(0, 1, c.main+";Print;Nil;Return"), function(0, 0, c.inner), function(0, 0, "Cap;Return"))
		wantDoes(t, c.main+" of "+c.inner, m, c.want)
	}
}

// 6.1: calls of functions that Compile never makes so.
func TestStrangeCalls(t *testing.T) {
	plain := function(1, 1, "Load;Return") // A method without a slot for its instance.
	method := function(0, 1, "Load;Return")
	for _, c := range []struct {
		main  string
		inner code.Func
		want  string
	}{
		{"New 1;Send 2", method, "O:M#1 D"},
		{"New 1;Push 0;Send 2 1", plain, "O:7 D"},
		{"New 1;Send 2", plain, "T0:arity X:arity"},
		{"New 0;Send 2", method, "T0:name X:name"},
		{"New 1;Send 3", method, "T0:name X:name"},
		{"Push 0;Closure 1 1;Call", method, "O:nil D"},
		{"Push 0;Closure 1 1;Push 0;Call 0 1", plain, "O:7 D"},
		{"CallFn 1", method, "O:nil D"},
		// Super: of any value, from the class above on.
		{"Push 0;Super 2 128", method, "O:7 D"},
		{"Nil;Push 0;Super 2 129", plain, "O:7 D"},
		{"Nil;Super 2 129", plain, ""},
		{"New 2;Super 2 128", method, "O:N#1 D"},
		{"New 2;Super 2 64", method, "T0:name X:name"},
		{"New 2;Super 2", method, "T0:name X:name"},
		{"New 2;Super 3 128", method, "T0:name X:name"},
		{"New 2;Super 2 128", plain, "T0:arity X:arity"},
		// Values that nobody takes are gone.
		{"True;Push 0;New 0 2", method, "O:K#1 D"},
		{"Nil;True;Push 0;New 0 2;List 2;Push 4;Elem", method, "O:nil D"},
		{"Push 0;Nil;New 1 2;List 0;Pop;List 0", method, "O:list#3 D"},
		{"CallFn 1", function(0, 0, "True;Push 0;Return"), "O:7 D"},
		{"List 0;List 0;Same", method, "O:false D"},
	} {
		m := byHand(function(0, 0, c.main+";Print;Nil;Return"), c.inner)
		m.Classes = append(m.Classes, code.Class{Name: "N", Above: 1})
		if c.want == "" {
			if code.Check(m) == nil {
				t.Errorf("%s may be run", c.main)
			}
			continue
		}
		wantDoes(t, c.main, m, c.want)
	}
}

// 6.1: New of classes whose init Compile would not let through: arity is thrown ahead of depth, and no identity is given.
func TestStrangeInit(t *testing.T) {
	m := byHand(
		function(0, 0, "New 1;Print;Nil;Return;Print;List 0;Print;Nil;Return"),
		function(1, 1, "Nil;Return"))
	m.Classes[0].Names, m.Classes[0].Methods = []string{"init"}, []int{1}
	m.Funcs[0].Handlers = []code.Handler{{From: 0, To: 1, Target: 4}}
	wantDoes(t, "an init of one more", m, "T0:arity O:arity O:list#1 D")
	// At MaxCalls calls.
	m = byHand(function(0, 0, "CallFn 2;Return"), function(1, 1, "Nil;Return"), function(0, 0, "CallFn 2;Return;Throw;New 1;Return;Print;Nil;Return"))
	m.Classes[1].Names = []string{"init"}
	m.Funcs[2].Handlers = []code.Handler{{From: 0, To: 1, Target: 5}}
	wantDoes(t, "calls for ever", m, "T0:depth O:depth D")
	// An init that is a loop of News throws depth.
	m = byHand(function(0, 0, "New 1;Print;Nil;Return"), function(0, 0, "New 1;Return"))
	m.Classes[1].Names = []string{"init"}
	wantDoes(t, "News for ever", m, "T0:depth X:depth")
	// It is the instance, wherever init stands.
	m = byHand(function(0, 0, "Push 0;New 1 1;Print;Nil;Return"), function(1, 2, "Load 1;Load;SetGet 3;Load 1;Get 3;Print;True;Return"))
	m.Classes[0].Names, m.Classes[0].Methods = []string{"x", "init", "init"}, []int{1, 1, 1}
	m.Classes[1].Names, m.Classes[1].Methods = nil, nil
	wantDoes(t, "an init above", m, "O:7 O:M#1 D")
}

// 6.1: of names that stand there twice the first one counts; a class that has no field of those above it has none.
func TestStrangeClasses(t *testing.T) {
	m := byHand(function(0, 0, "New 1;Send 2;Print;New 0;Get 3;Print;New 1;Get 3;Print;Nil;Return"), function(0, 0, "True;Return"), function(0, 0, "Push 0;Return"))
	m.Classes[0].Fields = []string{"", "p", "p", "x"}
	m.Classes[1].Fields = []string{"q"}
	m.Classes[1].Names, m.Classes[1].Methods = []string{"n", "m", "m"}, []int{1, 2, 1}
	wantDoes(t, "names twice", m, "O:7 O:nil T0:name X:name")
	// 250 classes, each under the next one, and names of any bytes.
	m = byHand(function(0, 0, "New 0;Send 2;Print;New 0;Print;Nil;Send 2;Return"), function(0, 0, "True;Return"))
	m.Classes = nil
	for i := range 250 {
		m.Classes = append(m.Classes, code.Class{Name: "\x00" + fmt.Sprint(i), Above: i + 1})
	}
	m.Classes[249].Above, m.Classes[249].Names, m.Classes[249].Methods = -1, []string{"m"}, []int{1}
	wantDoes(t, "many classes", m, "O:true O:\x000#2 T0:type X:type")
}

// 6.1: a class with more fields than any heap has room for: over for want of room; with just as many as there is room for, it is an instance.
func TestGreatClasses(t *testing.T) {
	for fields, want := range map[int]string{0: "O:K#1 D", 59: "O:K#1 D", 60: "O:K#1 D", 59_000: "O:K#1 D", 59_001: "", 200_000: ""} {
		m := byHand(function(0, 1, "New 0;Store 0;Load 0;Print;Nil;Return"))
		m.Classes[0].Fields = make([]string, fields)
		for _, c := range []Config{roomy(), {1001, 70_000, nil}, {1001, 1_048_576, nil}} {
			x := started(t, m, c)
			if got := told(rest(x)...); got != want || x.Full() != (want == "") {
				t.Errorf("%d fields: %s, full %v, want %s", fields, got, x.Full(), want)
			}
		}
	}
}

// 6.1: texts of images may be longer than those that a program makes.
func TestLongConstants(t *testing.T) {
	long := strings.Repeat("long", 1000)
	m := byHand(function(0, 0, "Push 0;Print;Push 0;Len;Print;Push 0;Push 0;Same;Print;Push 0;Push 1;Less;Print;Push 0;Push 1;Add;Return"))
	m.Consts = []code.Const{{Text: true, S: long}, {Text: true}}
	wantDoes(t, "a long text", m, "O:"+long+" O:4000 O:true O:false T0:size X:size")
}

// 6.1: handlers anywhere: from From on, ahead of To, the first one that spans what throws; also around calls, and one that leads into what it spans.
func TestHandlers(t *testing.T) {
	const main = "True;Neg;Pop;CallFn 1;Pop;Jump 9;Print;Jump 9;Pop;Nil;Return;Print;Nil;Return"
	for _, c := range []struct {
		handlers [][3]int
		want     string
	}{
		{nil, "T0:type X:type"},
		{[][3]int{{0, 14, 6}}, "T0:type O:type D"},
		{[][3]int{{0, 1, 6}}, "T0:type X:type"},
		{[][3]int{{1, 2, 6}}, "T0:type O:type D"},
		{[][3]int{{1, 1, 6}}, "T0:type X:type"},
		{[][3]int{{2, 14, 6}}, "T0:type X:type"},
		{[][3]int{{0, 2, 6}, {0, 14, 11}}, "T0:type O:type D"},
		{[][3]int{{0, 1, 6}, {2, 14, 6}, {0, 2, 8}}, "T0:type D"},
		{[][3]int{{0, 2, 8}, {0, 14, 6}}, "T0:type D"},
		// What function 1 throws, 7, the handler around the call catches.
		{[][3]int{{1, 2, 2}, {3, 4, 6}}, "T0:type T0:7 O:7 D"},
		{[][3]int{{1, 2, 2}, {3, 3, 6}, {4, 14, 8}}, "T0:type T0:7 X:7"},
		{[][3]int{{1, 2, 2}, {0, 14, 4}}, "T0:type T0:7 D"},
		// Into what it spans: Neg of what Neg throws, for ever.
		{[][3]int{{0, 14, 1}}, strings.TrimSuffix(strings.Repeat("T0:type ", api.MaxEvents), " ")},
		{[][3]int{{0, 14, 2}}, strings.TrimSuffix("T0:type "+strings.Repeat("T0:7 ", api.MaxEvents-1), " ")},
	} {
		m := byHand(function(0, 0, main), function(0, 0, "Push 0;Throw"))
		for _, h := range c.handlers {
			m.Funcs[0].Handlers = append(m.Funcs[0].Handlers, code.Handler{From: h[0], To: h[1], Target: h[2]})
		}
		wantDoes(t, fmt.Sprint(c.handlers), m, c.want)
	}
}

// 6.1: values that were on the stack are gone where something is caught, those of functions below stay.
func TestHandlersAndStacks(t *testing.T) {
	m := byHand(function(0, 0, "True;Push 0;CallFn 1;List 3;Len;Print;Nil;Return"), function(0, 0, "Nil;Nil;Nil;Neg;Return;Print;Push 0;Return"))
	m.Funcs[1].Handlers = []code.Handler{{From: 3, To: 4, Target: 5}}
	wantDoes(t, "stacks", m, "T0:type O:type O:3 D")
}

// 6.1: each operation that Truth and jumps are made of.
func TestJumps(t *testing.T) {
	for text, want := range map[string]string{
		"True;Unless 4;Push 0;Print;Nil;Return":                         "O:7 D",
		"False;Unless 4;Push 0;Print;Nil;Return":                        "D",
		"True;IfTrue 4;Push 0;Truth;Print;Nil;Return":                   "O:true D",
		"False;IfTrue 4;Push 0;Truth;Print;Nil;Return":                  "T0:type X:type",
		"False;IfFalse 4;Push 0;Truth;Print;Nil;Return":                 "O:false D",
		"True;IfFalse 4;False;Truth;Print;Nil;Return":                   "O:false D",
		"Nil;IfFalse 4;False;Truth;Print;Nil;Return":                    "T0:type X:type",
		"Push 0;IfTrue 4;False;Truth;Print;Nil;Return":                  "T0:type X:type",
		"Push 4;Unless 2;Nil;Return":                                    "T0:type X:type",
		"Jump 2;Print;Nil;Return":                                       "D",
		"Stop 1;Jump 0":                                                 strings.TrimSuffix(strings.Repeat("S1 ", api.MaxEvents), " "),
		"True;Print;Jump 0":                                             strings.TrimSuffix(strings.Repeat("O:true ", api.MaxEvents), " "),
		"Caught 3;Jump 0":                                               strings.TrimSuffix(strings.Repeat("C3 ", api.MaxEvents), " "),
		"Nil;Return":                                                    "D",
		"Nil;Nil;Nil;Return":                                            "D",
		"Input;Print;Nil;Return":                                        "O:nil D",
		"Load 1;Print;Nil;Return":                                       "O:nil D",
		"Push 0;Store 1;Load 1;Print;Load;Print;Nil;Return":             "O:7 O:nil D",
		"Push 0;Push 4;Div;Return":                                      "T0:zero X:zero",
		"Push 0;List 1;Push 4;Elem;Print;List 0;Push 4;Elem;Nil;Return": "O:7 T0:index X:index",
	} {
		wantDoes(t, text, byHand(function(0, 2, text)), want)
	}
}

// 6.1: functions of the greatest kind: 5000 instructions, 200 values and slots, 250 functions, 1000 constants.
func TestGreatestImage(t *testing.T) {
	m := &code.Image{Consts: make([]code.Const, 1000)}
	for i := range m.Consts {
		m.Consts[i].N = i
	}
	fill := slices.Repeat(body("Nil;Pop"), 2398)
	for range 250 {
		f := function(0, 200, "Push 999")
		f.Code = append(f.Code, slices.Repeat(body("Store 199;Load 199"), 1)...)
		f.Code = append(f.Code, fill...)
		for range 199 {
			f.Code = append(f.Code, body("Nil")...)
		}
		f.Code = append(f.Code, body("Print;Return")...)
		m.Funcs = append(m.Funcs, f)
	}
	m.Funcs[0].Code = append(slices.Repeat(body("Nil"), 199), body("CallFn 249;Return")...)
	wantDoes(t, "the greatest", m, "O:nil D")
}
