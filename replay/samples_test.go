package replay

import (
	"strconv"
	"strings"
	"testing"

	"rewind/api"
	"rewind/code"
	"rewind/vm"
)

// sample asks for inputs, makes objects of all kinds, throws, catches, calls, and dies.
const sample = `class A { field p; field q; init(x) { this.p = x; } get() { return this.p; } }
class B < A { get() { return [super.get(), input()]; } }
fn f(n) { if (n == 0) { throw [n, input()]; } return f(n - 1); }
var l = [];
var i = 0;
while (i < 4) { var j = i; l = l + [fn() { j = j + 1; return [j, new B(l)]; }]; i = i + 1; }
try { f(3); } catch (e) { print(e); print(e[1]); print(l[1]()); print(l[1]()[0]); }
var b = new B("x");
b.q = b;
print(b.get()); print(b.q.get()[1]); print(len(l)); print(input()); print(l[3]()[1]);
print(b.q == b);
b.nothing = 1;
`

// counting is a program of so many events, from 5 on: it prints, and comes to its Done.
func counting(events int) string {
	// Two Stops ahead, two for each round, one more of While, the last one, and Done; an Out, where it must be.
	rounds := (events - 5) / 2
	text := "var a = [0];\nvar i = 0;\nwhile (i < " + strconv.Itoa(rounds) + ") { i = i + 1; }\n"
	if (events-5)%2 == 1 {
		return text + "print(a);"
	}
	return text + "1;"
}

// grows makes lists that all are used, so that any room is full some day.
const grows = "var l = nil;\nwhile (true) { l = [l, 1, 2, 3]; }"

// samples are runs of all kinds of ends, by names.
func samples(t *testing.T) map[string]run {
	t.Helper()
	small := func(nursery, old int, collect ...int) vm.Config {
		return vm.Config{Nursery: nursery, Old: old, Collect: collect}
	}
	return map[string]run{
		"empty":               {compiled(t, ""), small(1, 1), nil},
		"one":                 {compiled(t, "print(1 + 2);"), roomy(), nil},
		"sample":              {compiled(t, sample), roomy(), []int{7, 8}},
		"sample, collected":   {compiled(t, sample), small(60, 600, 1, 0, 2), []int{7, 8}},
		"nobody caught":       {compiled(t, "fn f() { var a = [1]; throw a; }\nvar b = [2];\nf();"), small(60, 600, 1), nil},
		"caught":              {compiled(t, "fn f(n) { if (n == 0) { throw [n]; } f(n - 1); }\ntry { f(5); } catch (e) { f(2); }"), small(2, 10, 2), nil},
		"for ever":            {compiled(t, "var i = 0;\nwhile (true) { i = i + 1; print([i]); }"), small(60, 200, 0, 1), nil},
		"just MaxEvents":      {compiled(t, counting(api.MaxEvents)), small(2, 2, 2), nil},
		"one more":            {compiled(t, counting(api.MaxEvents+1)), small(2, 2, 2), nil},
		"want of room":        {compiled(t, grows), small(40, 400, 0, 0, 1), nil},
		"want of room, early": {compiled(t, "var a = [1];"), small(1, 1), nil},
		"want of room, dying": {compiled(t, "try { throw 1; } catch (e) { print([1, 2]); }"), small(2, 2), nil},
		"inputs":              {compiled(t, "while (true) { var i = input(); print(i); if (i == nil) { throw i; } }"), small(1, 1), []int{3, 1, 2}},
		"closures":            {compiled(t, "var i = 0; while (i < 20) { var j = i; i = (fn() { j = j + 1; return j; })(); }"), small(10, 100, 0, 1), nil},
		"quiet":               {byHand(code.Instr{Op: code.Jump}), small(1, 1), nil},
		"quiet behind a Stop": {byHand(code.Instr{Op: code.Stop, A: 4}, code.Instr{Op: code.Jump, A: 1}), small(1, 1), nil},
	}
}

// The samples end as they are named.
func TestSamples(t *testing.T) {
	for name, want := range map[string]struct {
		count int
		last  string
		full  bool
	}{
		"empty": {1, "D", false}, "one": {3, "D", false}, "sample": {0, "X:name", false},
		"nobody caught": {6, "X:list#2", false}, "caught": {0, "X:list#2", false},
		"for ever": {api.MaxEvents, "S2", false}, "just MaxEvents": {api.MaxEvents, "D", false}, "one more": {api.MaxEvents, "S4", false},
		"want of room": {0, "S2", true}, "want of room, early": {1, "S1", true}, "want of room, dying": {5, "S1", true},
		"inputs": {0, "X:nil", false}, "quiet": {0, "", true}, "quiet behind a Stop": {1, "S4", true},
	} {
		events, x := samples(t)[name].end(t)
		if !strings.HasSuffix(" "+told(events...), " "+want.last) || x.Full() != want.full || want.count > 0 && len(events) != want.count {
			t.Errorf("%s: %d events, full %v: %.300s", name, len(events), x.Full(), told(events...))
		}
	}
}
