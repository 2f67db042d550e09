package heap

import (
	"fmt"
	"slices"
	"testing"

	"rewind/api"
)

// die: numbers that look drawn, the same each time.
type die uint64

func (d *die) n(most int) int {
	*d = *d*6364136223846793005 + 1442695040888963407
	return int(uint64(*d>>33) % uint64(most))
}

// life is a heap, its model, and values that are held; beside each of these what it leads to in the model.
type life struct {
	*die
	h     *Heap
	m     *model
	held  []lead
	found map[string]int // how often something came to be
}

func born(d *die, nursery, old int) *life {
	h, _ := New(nursery, old)
	return &life{die: d, h: h, m: &model{nursery: nursery, old: old}, found: map[string]int{}}
}

// any is one that is held; or one that leads nowhere.
func (l *life) any() lead {
	if len(l.held) == 0 || l.n(25) == 0 {
		return lead{v: ref([]int{0, -1, least, greatest, 1 << 40}[l.n(5)])}
	}
	return l.held[l.n(len(l.held))]
}

// value is one that is held, or any other one.
func (l *life) value() lead {
	if l.n(3) > 0 {
		return l.any()
	}
	s := strange()
	return lead{v: s[l.n(len(s))]}
}

// same: is what was told what the model tells?
func (l *life) same(what string, err error, want api.Errno) error {
	l.found[fmt.Sprint(what, " ", int(want))]++
	if api.Tell(err) != want {
		return fmt.Errorf("%s: error %d, want %d", what, api.Tell(err), want)
	}
	return nil
}

func (l *life) alloc() error {
	kind, tag, size := l.n(4)+1, l.n(9)-4, l.n(5)
	if l.n(12) == 0 {
		kind, size = l.n(8)-1, []int{-1, 0, 1, 1000, 1001}[l.n(5)]
	}
	x, want := l.m.alloc(kind, tag, size)
	a, err := l.h.Alloc(kind, tag, size)
	if err == nil {
		l.held = append(l.held, lead{ref(a), x})
	}
	return l.same("Alloc", err, want)
}

func (l *life) set() error {
	o, v := l.any(), l.value()
	i := l.n(5)
	if l.n(15) == 0 {
		i = []int{-1, 1000, least, greatest}[l.n(4)]
	}
	want := l.m.set(o.to, i, v)
	return l.same("Set", l.h.Set(o.v.N, i, v.v), want)
}

// fetch holds what a field leads to, or an identity.
func (l *life) fetch() error {
	o := l.any()
	if o.to == nil || len(o.to.fields) == 0 {
		if len(l.m.things) == 0 {
			return nil
		}
		x := l.m.things[l.n(len(l.m.things))]
		if a, ok := l.h.At(x.id); ok {
			l.held = append(l.held, lead{ref(a), x})
		}
		return nil
	}
	i := l.n(len(o.to.fields))
	v, err := l.h.Get(o.v.N, i)
	if v.Kind == Ref {
		l.held = append(l.held, lead{v, o.to.fields[i].to})
	}
	return l.same("Get", err, api.OK)
}

// roots is some of what is held, and roots of it: some several times, some nil, some that lead nowhere.
func (l *life) roots() (kept []lead, roots []*Value) {
	kept = slices.Clone(l.held)
	for range min(l.n(4), len(kept)) {
		i := l.n(len(kept))
		kept = slices.Delete(kept, i, i+1)
	}
	for i := range kept {
		roots = append(roots, &kept[i].v)
		if l.n(4) == 0 {
			roots = append(roots, nil, &kept[l.n(i+1)].v)
		}
		if none := l.value(); none.to == nil {
			roots = append(roots, &none.v)
		}
	}
	return kept, roots
}

// collect is a Minor or a Major. What is not among its roots is held no longer, unless it told something: then nothing may have changed.
func (l *life) collect(major bool) error {
	kept, roots := l.roots()
	var to []*thing
	for _, x := range kept {
		to = append(to, x.to)
	}
	what, collect, asked := "Minor", l.h.Minor, l.m.minor
	if major {
		what, collect, asked = "Major", l.h.Major, l.m.major
	}
	all := append(values(l.held), values(kept)...)
	ahead := told(l.h, all...)
	want := asked(to)
	if err := l.same(what, collect(roots), want); err != nil {
		return err
	}
	if want == api.OK {
		l.held = kept
		return nil
	}
	if now := told(l.h, append(values(l.held), values(kept)...)...); now != ahead {
		return fmt.Errorf("%s: told ErrFull, and changed\n%s\nto\n%s", what, ahead, now)
	}
	return nil
}

func values(l []lead) []Value {
	var out []Value
	for _, x := range l {
		out = append(out, x.v)
	}
	return out
}

// step does one thing, to the heap and to the model.
func (l *life) step() error {
	if len(l.held) > 12 {
		l.held = slices.Delete(l.held, 0, l.n(6))
	}
	switch k := l.n(20); {
	case k < 8:
		return l.alloc()
	case k < 15:
		return l.set()
	case k < 17:
		return l.fetch()
	case k < 19:
		return l.collect(false)
	}
	return l.collect(true)
}

// alike: is the heap what the model is? What lies at one address must be one thing, and the other way round.
func (l *life) alike() error {
	young, old := l.m.use()
	a, b, c, d := l.h.Use()
	if a != young || b != old || c != l.m.minors || d != l.m.majors || l.h.Last() != l.m.last {
		return fmt.Errorf("in use: %d, %d, %d, %d, last %d, want %d, %d, %d, %d, %d", a, b, c, d, l.h.Last(), young, old, l.m.minors, l.m.majors, l.m.last)
	}
	ids := l.m.ids()
	if !slices.Equal(l.h.Ids(), ids) {
		return fmt.Errorf("identities %v, want %v", l.h.Ids(), ids)
	}
	p := &pairing{h: l.h, thing: map[int]*thing{}, at: map[*thing]int{}}
	for _, x := range l.m.things {
		if x.id > 0 {
			at, _ := l.h.At(x.id)
			p.pair(at, x)
		}
	}
	for id := range l.m.last + 2 {
		if at, ok := l.h.At(id); ok != slices.Contains(ids, id) || !ok && at != 0 {
			return fmt.Errorf("identity %d: at %d, %v", id, at, ok)
		}
	}
	for _, v := range l.held {
		p.value(v.v, v)
	}
	return p.err
}

// pairing goes through a heap and its model side by side.
type pairing struct {
	h     *Heap
	thing map[int]*thing
	at    map[*thing]int
	err   error
}

func (p *pairing) value(v Value, want lead) {
	switch {
	case want.to != nil && v.Kind == Ref:
		p.pair(v.N, want.to)
	case v != want.v:
		p.err = fmt.Errorf("%v, want %v", v, want.v)
	}
}

func (p *pairing) pair(a int, x *thing) {
	if p.err != nil || p.thing[a] == x {
		return
	}
	if at, ok := p.at[x]; ok || p.thing[a] != nil {
		p.err = fmt.Errorf("at %d and %d: one thing, or two at one address", a, at)
		return
	}
	p.thing[a], p.at[x] = x, a
	if p.h.Kind(a) != x.kind || p.h.Tag(a) != x.tag || p.h.Id(a) != x.id || p.h.Size(a) != len(x.fields) {
		p.err = fmt.Errorf("at %d: %d, %d, %d, %d, want %v", a, p.h.Kind(a), p.h.Tag(a), p.h.Id(a), p.h.Size(a), *x)
		return
	}
	for i, f := range x.fields {
		v, err := p.h.Get(a, i)
		if err != nil {
			p.err = err
			return
		}
		p.value(v, f)
	}
}

// 5.1 to 5.3: whatever is done, a heap is what its model is.
func TestAnyLife(t *testing.T) {
	d := die(5)
	found := map[string]int{}
	for round := range 600 {
		l := born(&d, 1+d.n(40), 1+d.n(120))
		for step := range 120 {
			err := l.step()
			if err == nil {
				err = l.alike()
			}
			if err != nil {
				t.Fatalf("round %d, step %d: %v\n%s", round, step, err, told(l.h, values(l.held)...))
			}
		}
		for what, n := range l.found {
			found[what] += n
		}
	}
	for _, what := range []string{"Alloc 0", "Alloc 1", "Alloc 12", "Set 0", "Set 2", "Set 7", "Get 0", "Minor 0", "Minor 12", "Major 0", "Major 12"} {
		if found[what] < 100 {
			t.Errorf("%s: %d times: what is drawn doesn't ask for it", what, found[what])
		}
	}
}

// 5.3: a heap and its Copy, each with a life of its own, are what their models are.
func TestAnyCopy(t *testing.T) {
	d := die(6)
	for round := range 300 {
		l := born(&d, 10+d.n(40), 20+d.n(100))
		lives := []*life{l}
		for step := range 120 {
			one := lives[d.n(len(lives))]
			if step%30 == 15 {
				m, held := one.m.copied(one.held)
				lives = append(lives, &life{die: &d, h: one.h.Copy(), m: m, held: held, found: map[string]int{}})
			}
			if err := one.step(); err != nil {
				t.Fatalf("round %d, step %d: %v", round, step, err)
			}
			for i, x := range lives {
				if err := x.alike(); err != nil {
					t.Fatalf("round %d, step %d, heap %d: %v", round, step, i, err)
				}
			}
		}
	}
}

// P4: the same calls are answered likewise, addresses too.
func TestSameAgain(t *testing.T) {
	for seed := range 20 {
		var first []string
		for again := range 3 {
			d := die(seed)
			l := born(&d, 30, 90)
			for step := range 150 {
				if err := l.step(); err != nil {
					t.Fatal(err)
				}
				s := told(l.h, values(l.held)...)
				if again == 0 {
					first = append(first, s)
				} else if s != first[step] {
					t.Fatalf("seed %d, step %d:\n%s\nand\n%s", seed, step, first[step], s)
				}
			}
		}
	}
}
