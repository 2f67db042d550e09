package inspect

import (
	"fmt"
	"strings"
	"testing"

	"rewind/vm"
)

// several has objects of all kinds, of which some are gone, some lead to each other, and some are shared by functions.
const several = `class A { field p; field q; init(x) { this.p = x; } put(x) { this.q = [x, this]; return this; } }
class B < A { field r; put(x) { var s = super.put([x]); this.r = s; return s; } }
fn f(n, l) { if (n == 0) { throw [n, l]; } var m = [n, l]; return f(n - 1, m); }
var l = [];
var i = 0;
while (i < 4) { var j = [i]; l = l + [fn() { j = [j, i]; return j; }]; i = i + 1; }
var b = new B("x");
b.put(l); b.put(b);
try { f(3, b); } catch (e) { var k = e; print(k); l = [l[1](), k]; print(l); }
b = nil; i = l; l = [i, i]; i = nil;
print(l);
l = nil;
`

// small makes objects of one cell alone.
const small = "class A {}\nvar a = [];\nvar i = 0;\nwhile (i < 3) { var b = new A(); var c = fn() { return 1; }; a = []; i = i + c(); print(b); }\nprint(a);"

// The whole, 4: whenever the heap is collected, there is the same behind each event; with little room up to where it is over.
func TestCollectionsAreNotSeen(t *testing.T) {
	collects := [][]int{nil, {0}, {1}, {2}, {0, 1}, {2, 0}, {1, 2}, {0, 1, 2, 1}, {2, 2, 0, 1, 1}}
	for _, text := range []string{several, small, manyFields(58), manyFields(59), manyFields(60), manyFields(130)} {
		image := compiled(t, text)
		want := walk(parsed(t, text))
		for _, nursery := range []int{1, 2, 20, 58, 59, 60, 61, 600, 65_536} {
			for _, collect := range collects {
				c := vm.Config{Nursery: nursery, Old: 60_000, Collect: collect}
				got := sights(t, started(t, image, c))
				full := len(got) < len(want)
				if full && nursery >= 60 {
					t.Fatalf("%.300s\nin %v: over behind %d events, not %d", text, c, len(got)-1, len(want)-1)
				}
				wantSights(t, fmt.Sprintf("%.300s\nin %v", text, c), got, want[:len(got)])
			}
		}
	}
}

// In the least nursery there is room for objects of one cell; of others a machine is over for want of it.
func TestLeastNursery(t *testing.T) {
	for text, want := range map[string]bool{small: false, several: true, manyFields(58): true} {
		x := ended(t, compiled(t, text), vm.Config{Nursery: 1, Old: 60_000, Collect: []int{2}})
		if x.Full() != want {
			t.Errorf("%.300s\nfull %v, want %v", text, x.Full(), want)
		}
		wantNothing(t, "over", x)
	}
}

// The whole, 4: objects that nothing leads to are not told, whether they are gone or not.
func TestGoneOrNot(t *testing.T) {
	text := "var a = [1];\na = [2];\nprint(a);"
	for _, c := range []struct {
		room vm.Config
		want bool
	}{{roomy(), true}, {tight(1), true}, {roomy(2), false}, {tight(2), false}} {
		x := started(t, compiled(t, text), c.room)
		for range 3 {
			x.Next()
		}
		if _, there := x.Heap().At(1); there != c.want {
			t.Errorf("in %v: the first list is there: %v", c.room, there)
		}
		if got := objectsOf(t, x); got != "list#2: 0 2" {
			t.Errorf("in %v: %s", c.room, got)
		}
	}
}

// The last sights of the sample are not empty: what is compared above has something in it.
func TestSeveral(t *testing.T) {
	most := 0
	for _, s := range sights(t, started(t, compiled(t, several), tight(1))) {
		most = max(most, strings.Count(s.objects, "#"))
	}
	if most < 20 {
		t.Errorf("%d objects at the most", most)
	}
}
