package heap

import "testing"

// lived is a heap with objects in both parts, some of which nothing leads to, and what is held of it.
func lived(t *testing.T) (*Heap, []Value) {
	h := made(t, 40, 60)
	held := []Value{list(t, h, number(1), text("a")), put(t, h, Box, 1), put(t, h, Instance, 0)}
	lay(t, h, held[1], 0, held[0])
	fine(t, h.Minor(all(held)))
	fine(t, h.Major(all(held)))
	held = append(held, list(t, h, held[0]), put(t, h, Closure, 2))
	lay(t, h, held[0], 0, held[3])
	put(t, h, Array, 3)
	return h, held
}

// 5.3: a Copy is as the heap is, addresses, too.
func TestCopy(t *testing.T) {
	h, held := lived(t)
	ahead := told(h, held...)
	c := h.Copy()
	if c == h || told(c, held...) != ahead || told(h, held...) != ahead {
		t.Errorf("a copy\n%s\nof\n%s", told(c, held...), ahead)
	}
	empty := made(t, 3, 4).Copy()
	wantUse(t, empty, 0, 0, 0, 0)
	put(t, empty, Array, 2)
	if _, err := empty.Alloc(Array, 0, 0); err == nil {
		t.Error("a copy's nursery has more room")
	}
}

// deeds are what may be done with a heap; each changes it.
func deeds(t *testing.T, held []Value) map[string]func(*Heap) {
	mine := func() []*Value { return all(append([]Value(nil), held...)) }
	return map[string]func(*Heap){
		"Alloc":     func(h *Heap) { put(t, h, Array, 2) },
		"Box":       func(h *Heap) { put(t, h, Box, 2) },
		"Set young": func(h *Heap) { lay(t, h, held[3], 0, number(77)) },
		"Set old":   func(h *Heap) { lay(t, h, held[1], 0, number(77)) },
		"lead":      func(h *Heap) { lay(t, h, held[1], 0, put(t, h, Array, 1)) },
		"Minor":     func(h *Heap) { fine(t, h.Minor(mine())) },
		"Minor, no": func(h *Heap) { fine(t, h.Minor(nil)) },
		"Major":     func(h *Heap) { fine(t, h.Major(mine())) },
		"Major, no": func(h *Heap) { fine(t, h.Major(nil)) },
	}
}

// 5.3: a Copy goes its own way: what is done with one of both is not seen in the other one; and both go on likewise.
func TestCopyGoesItsWay(t *testing.T) {
	h, held := lived(t)
	for one, do := range deeds(t, held) {
		for another, more := range deeds(t, held) {
			a, b := h.Copy(), h.Copy()
			ahead := told(b, held...)
			c := b.Copy()
			do(a)
			if told(b, held...) != ahead || told(c, held...) != ahead || told(h, held...) != ahead {
				t.Fatalf("%s: seen in another heap", one)
			}
			if told(a, held...) == ahead {
				t.Fatalf("%s: not seen", one)
			}
			do(c)
			if told(a, held...) != told(c, held...) || told(b, held...) != ahead {
				t.Fatalf("%s: not likewise\n%s\n%s", one, told(a, held...), told(c, held...))
			}
			if l, _, _, _ := a.Use(); l > 0 { // else what is held is out of date
				more(a)
				if told(b, held...) != ahead || told(h, held...) != ahead {
					t.Fatalf("%s, %s: seen in another heap", one, another)
				}
				more(c)
				if told(a, held...) != told(c, held...) {
					t.Fatalf("%s, %s: not likewise\n%s\n%s", one, another, told(a, held...), told(c, held...))
				}
			}
		}
	}
}

// 5.3: a Copy knows what old objects lead to.
func TestCopyLeads(t *testing.T) {
	h, _ := lived(t)
	c := h.Copy()
	fine(t, h.Major(nil))
	fine(t, c.Minor(nil))
	wantIds(t, c, 1, 2, 3)
	at, _ := c.At(1)
	if f := field(t, c, ref(at), 0); c.Id(f.N) != 3 || field(t, c, f, 0) != ref(at) {
		t.Errorf("%s", told(c))
	}
}

// 5.3: a heap and its Copy come to know of different old objects that lead into the nursery; neither forgets one.
func TestCopyLeadsApart(t *testing.T) {
	for many := range 20 {
		h := made(t, 100, 200)
		var old []Value
		for range many + 2 {
			old = append(old, put(t, h, Array, 1))
		}
		fine(t, h.Minor(all(old)))
		for i := range many {
			lay(t, h, old[i], 0, list(t, h, number(i)))
		}
		c := h.Copy()
		lay(t, h, old[many], 0, list(t, h, number(-1)))
		lay(t, c, old[many+1], 0, list(t, c, number(-2)))
		fine(t, h.Minor(nil))
		fine(t, c.Minor(nil))
		for n, x := range []*Heap{h, c} {
			at, _ := x.At(many + n + 1)
			if f := field(t, x, ref(at), 0); field(t, x, f, 0) != number(-1-n) {
				t.Errorf("%d notes: %s", many, told(x))
			}
			wantUse(t, x, 0, (many+2)*2+(many+1)*2, 2, 0)
		}
	}
}
