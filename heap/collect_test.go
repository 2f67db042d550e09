package heap

import "testing"

// both does something with a Minor, and with a Major.
func both(t *testing.T, nursery, old int, do func(t *testing.T, h *Heap, collect func([]*Value) error)) {
	t.Helper()
	t.Run("Minor", func(t *testing.T) {
		h := made(t, nursery, old)
		do(t, h, h.Minor)
	})
	t.Run("Major", func(t *testing.T) {
		h := made(t, nursery, old)
		do(t, h, h.Major)
	})
}

// 5.3, example 5: a list of 1 field, 5, that is moved: the field is 5 yet, its identity 1.
func TestExample(t *testing.T) {
	both(t, 10, 10, func(t *testing.T, h *Heap, collect func([]*Value) error) {
		v := list(t, h, number(5))
		fine(t, collect([]*Value{&v}))
		if f := field(t, h, v, 0); f != number(5) || h.Id(v.N) != 1 || v.Kind != Ref {
			t.Errorf("%v: field %v, identity %d", v, f, h.Id(v.N))
		}
		n, o, _, _ := h.Use()
		if n != 0 || o != 2 {
			t.Errorf("in use: %d and %d", n, o)
		}
	})
}

// 5.3: all that roots lead to, by fields of fields too, is there, each thing once; all else is gone.
func TestReached(t *testing.T) {
	both(t, 60, 60, func(t *testing.T, h *Heap, collect func([]*Value) error) {
		last := list(t, h, text("end"), number(8))
		list(t, h, last)
		a := list(t, h, last, number(1))
		box := put(t, h, Box, 1)
		lay(t, h, box, 0, a)
		root := list(t, h, box, last, a, text("r"))
		list(t, h, root, box)
		fine(t, collect([]*Value{&root}))
		wantIds(t, h, 1, 3, 4)
		n, o, _, _ := h.Use()
		if n != 0 || o != 3+3+2+5 {
			t.Errorf("in use: %d and %d", n, o)
		}
		box, last, a = field(t, h, root, 0), field(t, h, root, 1), field(t, h, root, 2)
		if h.Id(root.N) != 4 || h.Kind(box.N) != Box || h.Id(last.N) != 1 || h.Id(a.N) != 3 || field(t, h, root, 3) != text("r") {
			t.Errorf("%s", told(h, root))
		}
		if field(t, h, box, 0) != a || field(t, h, a, 0) != last || field(t, h, a, 1) != number(1) || field(t, h, last, 0) != text("end") || field(t, h, last, 1) != number(8) {
			t.Errorf("%s", told(h, root))
		}
	})
}

// 5.3: kinds, tags and sizes stay, and a field that was set to something strange.
func TestStays(t *testing.T) {
	both(t, 2000, 2000, func(t *testing.T, h *Heap, collect func([]*Value) error) {
		var held []Value
		for _, l := range [][3]int{{Instance, 5, 0}, {Closure, least, 1}, {Array, greatest, 1000}, {Box, -7, 3}} {
			a, err := h.Alloc(l[0], l[1], l[2])
			fine(t, err)
			held = append(held, Value{Ref, a, "root"})
		}
		for i, v := range strange() {
			lay(t, h, held[2], i, v)
		}
		lay(t, h, held[2], 999, Value{Ref, held[3].N, "field"})
		for range 2 {
			fine(t, collect(all(held)))
			for i, l := range [][4]int{{Instance, 5, 0, 1}, {Closure, least, 1, 2}, {Array, greatest, 1000, 3}, {Box, -7, 3, 0}} {
				v := held[i]
				if a := v.N; h.Kind(a) != l[0] || h.Tag(a) != l[1] || h.Size(a) != l[2] || h.Id(a) != l[3] || v.Kind != Ref || v.S != "root" {
					t.Errorf("%v: %v, %d, %d, %d, %d", l, v, h.Kind(a), h.Tag(a), h.Size(a), h.Id(a))
				}
			}
			for i, v := range strange() {
				if got := field(t, h, held[2], i); got != v {
					t.Errorf("field %d: %v, want %v", i, got, v)
				}
			}
			if got := field(t, h, held[2], 999); got != (Value{Ref, held[3].N, "field"}) {
				t.Errorf("field 999: %v", got)
			}
		}
	})
}

// 5.3: objects that lead to themselves, and to each other: while roots lead there, and when none does.
func TestRound(t *testing.T) {
	both(t, 30, 30, func(t *testing.T, h *Heap, collect func([]*Value) error) {
		self, a, b := put(t, h, Array, 2), put(t, h, Array, 1), put(t, h, Box, 1)
		lay(t, h, self, 0, self)
		lay(t, h, self, 1, self)
		lay(t, h, a, 0, b)
		lay(t, h, b, 0, a)
		for range 3 {
			fine(t, collect([]*Value{&self, &b}))
			if field(t, h, self, 0) != self || field(t, h, self, 1) != self || h.Id(self.N) != 1 {
				t.Errorf("%s", told(h, self))
			}
			if a = field(t, h, b, 0); h.Id(a.N) != 2 || field(t, h, a, 0) != b {
				t.Errorf("%s", told(h, b))
			}
		}
		fine(t, h.Major(nil))
		wantIds(t, h)
		n, o, _, _ := h.Use()
		if n != 0 || o != 0 {
			t.Errorf("in use: %d and %d", n, o)
		}
	})
}

// 5.3: two that lead to each other are gone when nothing leads to them, in the nursery too.
func TestRoundGone(t *testing.T) {
	both(t, 30, 30, func(t *testing.T, h *Heap, collect func([]*Value) error) {
		a, b := put(t, h, Array, 1), put(t, h, Array, 1)
		lay(t, h, a, 0, b)
		lay(t, h, b, 0, a)
		fine(t, collect(nil))
		wantIds(t, h)
		wantNothing(t, h, a.N)
		wantNothing(t, h, b.N)
	})
}

// 5.3: one root may stand there several times, beside others that lead to the same.
func TestRootTwice(t *testing.T) {
	both(t, 60, 60, func(t *testing.T, h *Heap, collect func([]*Value) error) {
		for round := range 4 {
			l := []Value{list(t, h, number(1)), list(t, h, number(2)), list(t, h, number(3))}
			same := l[1]
			fine(t, collect([]*Value{&l[1], &l[0], &l[1], &same, &l[2], &l[1], &l[0], &same, &l[2]}))
			for i, v := range l {
				if h.Id(v.N) != round*3+i+1 || field(t, h, v, 0) != number(i+1) {
					t.Errorf("root %d: %s", i, told(h, v))
				}
			}
			if same != l[1] {
				t.Errorf("two roots of one object: %v and %v", same, l[1])
			}
			fine(t, h.Major(nil))
		}
	})
}

// 5.3: roots that are nil, no Ref, or lead to nothing, stay as they are, and hold nothing.
func TestNoRoots(t *testing.T) {
	both(t, 20, 20, func(t *testing.T, h *Heap, collect func([]*Value) error) {
		gone := put(t, h, Array, 1)
		fine(t, h.Major(nil))
		v := put(t, h, Array, 3)
		ahead := append(strange(), gone, ref(0), ref(-1), ref(least), ref(greatest), ref(1<<40))
		for _, kind := range []int{Nil, Bool, Int, Text, Ref + 1, -1} {
			ahead = append(ahead, Value{kind, v.N, "s"})
		}
		l := append([]Value(nil), ahead...)
		roots := []*Value{nil}
		for i := range l {
			roots = append(roots, &l[i], nil)
		}
		fine(t, collect(roots))
		for i := range l {
			if l[i] != ahead[i] {
				t.Errorf("root %v is %v then", ahead[i], l[i])
			}
		}
		wantIds(t, h)
		n, o, _, _ := h.Use()
		if n != 0 || o != 0 {
			t.Errorf("in use: %d and %d", n, o)
		}
	})
}

// 5.3: a root beside one that is no root is changed all the same.
func TestRootAmong(t *testing.T) {
	both(t, 20, 20, func(t *testing.T, h *Heap, collect func([]*Value) error) {
		l := []Value{{}, list(t, h, number(4)), ref(-1), text("t")}
		fine(t, collect([]*Value{nil, &l[0], nil, &l[2], &l[1], &l[3], nil}))
		if field(t, h, l[1], 0) != number(4) || l[0] != (Value{}) || l[2] != ref(-1) || l[3] != text("t") {
			t.Errorf("%v", l)
		}
	})
}

// 5.3: a Minor keeps what objects of the old part lead to, though nothing leads to these; a Major doesn't.
func TestOldLeads(t *testing.T) {
	h := made(t, 30, 30)
	old := []Value{put(t, h, Array, 3), put(t, h, Box, 1)}
	fine(t, h.Minor(all(old)))
	deep := list(t, h, number(6))
	a, b := list(t, h, deep), list(t, h, number(7))
	put(t, h, Array, 0)
	lay(t, h, old[0], 1, a)
	lay(t, h, old[1], 0, b)
	fine(t, h.Minor(nil))
	wantIds(t, h, 1, 2, 3, 4)
	wantUse(t, h, 0, 4+2+2+2+2, 2, 0)
	at, _ := h.At(1)
	a = field(t, h, ref(at), 1)
	if h.Id(a.N) != 3 || field(t, h, field(t, h, a, 0), 0) != number(6) {
		t.Errorf("%s", told(h))
	}
	at, _ = h.At(4)
	if field(t, h, ref(at), 0) != number(7) {
		t.Errorf("%s", told(h))
	}
	fine(t, h.Minor(nil))
	wantIds(t, h, 1, 2, 3, 4)
	fine(t, h.Major([]*Value{&a}))
	wantIds(t, h, 2, 3)
	wantUse(t, h, 0, 4, 3, 1)
}

// 5.3: what an old object led to, and does not any more, is gone; what it is given anew, behind each Minor, stays.
func TestOldLeadsAnew(t *testing.T) {
	h := made(t, 30, 60)
	old := put(t, h, Array, 2)
	fine(t, h.Minor([]*Value{&old}))
	for round := range 5 {
		was := list(t, h, number(round))
		lay(t, h, old, 0, was)
		lay(t, h, old, 1, was)
		is := list(t, h, number(100+round))
		lay(t, h, old, 0, is)
		lay(t, h, old, 1, Value{})
		lay(t, h, old, 1, number(-round))
		fine(t, h.Minor([]*Value{&old}))
		if f := field(t, h, old, 0); h.Id(f.N) != 3+2*round || field(t, h, f, 0) != number(100+round) || field(t, h, old, 1) != number(-round) {
			t.Errorf("%s", told(h, old))
		}
		if _, ok := h.At(2 + 2*round); ok {
			t.Errorf("what nothing leads to is there: %s", told(h, old))
		}
	}
}

// 5.3: an old object that leads into the nursery leads there behind a Major, too, and is seen again behind it.
func TestOldLeadsMajor(t *testing.T) {
	h := made(t, 30, 60)
	old := put(t, h, Array, 1)
	for round := range 4 {
		fine(t, h.Major([]*Value{&old}))
		lay(t, h, old, 0, list(t, h, number(round)))
		fine(t, h.Major([]*Value{&old}))
		if f := field(t, h, old, 0); field(t, h, f, 0) != number(round) {
			t.Errorf("%s", told(h, old))
		}
		lay(t, h, old, 0, list(t, h, number(-round)))
		fine(t, h.Minor([]*Value{&old}))
		if f := field(t, h, old, 0); field(t, h, f, 0) != number(-round) {
			t.Errorf("%s", told(h, old))
		}
	}
}

// 5.3: many old objects that lead into the nursery, to more than is there already.
func TestOldLeadMany(t *testing.T) {
	h := made(t, 2000, 6000)
	var old []Value
	for range 200 {
		old = append(old, put(t, h, Array, 2))
	}
	fine(t, h.Minor(all(old)))
	for i, o := range old {
		lay(t, h, o, 0, list(t, h, number(i), list(t, h, number(-i))))
		lay(t, h, o, 1, old[(i+1)%len(old)])
	}
	fine(t, h.Minor(nil))
	for i := range old {
		at, _ := h.At(i + 1)
		f := field(t, h, ref(at), 0)
		if field(t, h, f, 0) != number(i) || field(t, h, field(t, h, f, 1), 0) != number(-i) {
			t.Fatalf("object %d: %s", i, told(h, ref(at)))
		}
		if next := field(t, h, ref(at), 1); h.Id(next.N) != (i+1)%len(old)+1 {
			t.Fatalf("object %d leads to %d", i, h.Id(next.N))
		}
	}
	wantUse(t, h, 0, 200*3+200*5, 2, 0)
}

// 5.3: a Minor asks for room for all cells that are in use, also for those that would be gone; it just fits, or one cell is missing.
func TestMinorFull(t *testing.T) {
	for more, full := range []bool{false, true} {
		h := made(t, 10, 10)
		held := []Value{list(t, h, number(1), number(2), number(3)), put(t, h, Array, 1)}
		fine(t, h.Minor(some(held, 0, 1)))
		held = []Value{held[0], put(t, h, Box, 1), list(t, h, held[0], number(9), text("t"))}
		lay(t, h, held[0], 1, held[2])
		for range more {
			put(t, h, Array, 0)
		}
		wantUse(t, h, 6+more, 4, 1, 0)
		if !full {
			fine(t, h.Minor(all(held)))
			wantUse(t, h, 0, 10, 2, 0)
			continue
		}
		for _, roots := range [][]*Value{nil, all(held), {&held[2], nil}} {
			wantFull(t, h, "a Minor of 11 cells into 10", h.Minor, held, roots)
		}
		fine(t, h.Major(all(held)))
		wantUse(t, h, 0, 10, 1, 1)
		if field(t, h, held[0], 1) != held[2] || field(t, h, held[2], 0) != held[0] {
			t.Errorf("%s", told(h, held...))
		}
	}
}

// 5.3: a Major asks for room for what roots lead to, and for no more, whatever else is in use; it just fits, or one cell is missing.
func TestMajorFull(t *testing.T) {
	h := made(t, 12, 10)
	held := []Value{list(t, h, number(1), number(2), number(3)), list(t, h, number(5))}
	fine(t, h.Minor(all(held)))
	held = append(held, list(t, h, held[0], number(9), text("t")), list(t, h, number(7), number(8)))
	lay(t, h, held[0], 2, held[2])
	wantUse(t, h, 7, 6, 1, 0)
	wantFull(t, h, "a Major of 11 cells into 10", h.Major, held, []*Value{&held[0], &held[3], &held[0]})
	wantFull(t, h, "a Major of 13 cells into 10", h.Major, held, all(held))
	fine(t, h.Major([]*Value{&held[2], &held[1]}))
	wantUse(t, h, 0, 10, 1, 1)
	wantIds(t, h, 1, 2, 3)
	if field(t, h, field(t, h, held[2], 0), 2) != held[2] || field(t, h, held[1], 0) != number(5) {
		t.Errorf("%s", told(h, held...))
	}
}

// 5.3: when there was no room, all goes on as if nobody had asked: what old objects lead to is known yet.
func TestGoesOnWhenFull(t *testing.T) {
	h := made(t, 12, 8)
	old := list(t, h, number(0), number(1))
	fine(t, h.Minor([]*Value{&old}))
	young := list(t, h, number(2))
	lay(t, h, old, 0, young)
	other := put(t, h, Array, 5)
	held := []Value{old, young, other}
	wantFull(t, h, "a Minor of 11 cells into 8", h.Minor, held, all(held))
	wantFull(t, h, "a Major of 11 cells into 8", h.Major, held, all(held))
	fine(t, h.Major([]*Value{&old}))
	lay(t, h, old, 1, list(t, h, number(3)))
	fine(t, h.Minor(nil))
	at, _ := h.At(1)
	for i := range 2 {
		if f := field(t, h, ref(at), i); field(t, h, f, 0) != number(2+i) {
			t.Errorf("%s", told(h))
		}
	}
	wantUse(t, h, 0, 7, 2, 1)
}
