package debug

import (
	"fmt"
	"strings"
	"testing"

	"rewind/api"
	"rewind/code"
	"rewind/vm"
)

// sample asks for inputs, makes objects of all kinds, throws, catches, calls, and dies.
const sample = `class A { field p; field q; init(x) { this.p = x; } get() { return this.p; } }
class B < A { get() { return [super.get(), input()]; } }
fn f(n) { if (n == 0) { throw [n, input()]; } var m = f(n - 1); return m; }
var l = [];
var i = 0;
while (i < 4) { var j = i; l = l + [fn() { j = j + 1; return [j, new B(l)]; }]; i = i + 1; }
try { f(3); } catch (e) { print(e); print(e[1]); print(l[1]()); print(l[1]()[0]); }
var b = new B("x");
b.q = b;
print(b.get()); print(b.q.get()[1]); print(len(l)); print(input()); print(l[3]()[1]);
print(b.q == b);
b.nothing = 1;
`

// counting goes round so many times, twice that and two events, and goes on with a text.
func counting(rounds int, then string) string {
	return fmt.Sprint("var i = 0;\nwhile (i < ", rounds, ") {\ni = i + 1; }\n", then)
}

// grows makes lists that all are used, so that any room is full some day.
const grows = "var l = nil;\nwhile (true) { l = [l, 1, 2, 3]; }"

// deeper comes to its last event within functions that never end.
const deeper = "fn f(n) { if (n < 20) { f(n + 1); }\nwhile (true) { n = n + 1; } }\ntry { f(0); } catch (e) { }"

// samples are runs of all kinds of ends, by names.
func samples(t *testing.T) map[string]run {
	t.Helper()
	small := func(nursery, old int, collect ...int) vm.Config {
		return vm.Config{Nursery: nursery, Old: old, Collect: collect}
	}
	return map[string]run{
		"empty":               {compiled(t, ""), small(1, 1), nil},
		"one":                 {compiled(t, "print(1 + 2);"), small(1, 1), nil},
		"sample":              {compiled(t, sample), small(600, 60_000), []int{7, 8}},
		"sample, collected":   {compiled(t, sample), small(60, 600, 1, 0, 2), []int{7, 8}},
		"nobody caught":       {compiled(t, "fn f() { var a = [1]; throw a; }\nvar b = [2];\nf();"), small(60, 600, 1), nil},
		"caught":              {compiled(t, "fn f(n) { if (n == 0) { throw [n]; } f(n - 1); }\ntry { f(5); } catch (e) { f(2); }"), small(2, 10, 2), nil},
		"for ever":            {compiled(t, "while (true) { }"), small(1, 1), nil},
		"for ever, deeper":    {compiled(t, deeper), small(1, 1), nil},
		"a last Done":         {compiled(t, counting(747, "1;\nprint(1);\n")), small(1, 1), nil},
		"a last Stop":         {compiled(t, counting(748, "1;\nprint(1);\n")), small(1, 1), nil},
		"a last Thrown":       {compiled(t, counting(748, "throw 1;\n")), small(1, 1), nil},
		"a last Dead":         {compiled(t, counting(747, "1;\nthrow 1;\n")), small(1, 1), nil},
		"want of room":        {compiled(t, grows), small(40, 400, 0, 0, 1), nil},
		"want of room, early": {compiled(t, "var a = [1];"), small(1, 1), nil},
		"want of room, deep":  {compiled(t, "fn f(a) { var l = [a, 1, 2, 3];\nf(l); }\nf(1);"), small(20, 40), nil},
		"want of room, dying": {compiled(t, "try { throw 1; } catch (e) { print([1, 2]); }"), small(2, 2), nil},
		"closures":            {compiled(t, "var i = 0; while (i < 20) { var j = i; i = (fn() { j = j + 1; return j; })(); }"), small(10, 100, 0, 1), nil},
		"quiet":               {byHand(code.Instr{Op: code.Jump}), small(1, 1), nil},
		"quiet behind a Stop": {byHand(code.Instr{Op: code.Stop, A: 4}, code.Instr{Op: code.Jump, A: 1}), small(1, 1), nil},
	}
}

// The samples end as they are named.
func TestSamples(t *testing.T) {
	for name, want := range map[string]struct {
		count int
		last  string
		full  bool
		deep  int
	}{
		"empty": {1, "D", false, 1}, "one": {3, "D", false, 1}, "sample": {0, "X:name", false, 1},
		"nobody caught": {6, "X:list#2", false, 1}, "caught": {0, "X:list#2", false, 1},
		"for ever": {api.MaxEvents, "S1", false, 1}, "for ever, deeper": {api.MaxEvents, "S2", false, 22},
		"a last Done": {api.MaxEvents, "D", false, 1}, "a last Stop": {api.MaxEvents, "S5", false, 1},
		"a last Thrown": {api.MaxEvents, "T4:1", false, 1}, "a last Dead": {api.MaxEvents, "X:1", false, 1},
		"want of room": {0, "S2", true, 1}, "want of room, early": {1, "S1", true, 1}, "want of room, dying": {5, "S1", true, 1},
		"want of room, deep": {0, "S1", true, 14},
		"quiet":              {0, "", true, 1}, "quiet behind a Stop": {1, "S4", true, 1},
	} {
		u := samples(t)[name]
		r := u.recorded(t, 50)
		events := r.Events()
		x := u.gone(t, len(events))
		if !strings.HasSuffix(" "+told(events...), " "+want.last) || r.Full() != want.full || want.count > 0 && len(events) != want.count {
			t.Errorf("%s: %d events, full %v: %.300s", name, len(events), r.Full(), told(events...))
		}
		if deep := len(x.State().Frames); deep != want.deep {
			t.Errorf("%s: %d functions are under way at the end", name, deep)
		}
	}
}
