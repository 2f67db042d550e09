package check

import (
	"strings"
	"sync"
	"testing"

	"rewind/api"
	"rewind/plain"
)

// P1 to P3: Check ends, with a table or an error at one of the program's lines, and each error comes up.
func TestAnyProgram(t *testing.T) {
	m := &maker{seed: 5}
	found := map[api.Errno]int{}
	for range 20_000 {
		text := m.program()
		n := mustParse(t, text)
		table, err := Check(n)
		found[api.Tell(err)]++
		if err == nil {
			if table == nil {
				t.Fatalf("%q: neither a table nor an error", text)
			}
			continue
		}
		if at := line(err); table != nil || at < 1 || at > 1+strings.Count(text, "\n") {
			t.Fatalf("%q: error %d at %d, beside %s", text, api.Tell(err), at, told(table))
		}
	}
	for _, e := range []api.Errno{api.OK, api.ErrArg, api.ErrName, api.ErrState, api.ErrMissing, api.ErrTwice, api.ErrCycle} {
		if found[e] < 20 {
			t.Errorf("error %d: in %d programs: they don't ask for it", e, found[e])
		}
		delete(found, e)
	}
	for e := range found {
		t.Errorf("error %d: none of chapter 2", e)
	}
}

// The whole, 1: line feeds ahead of a program shift its lines.
func TestShifted(t *testing.T) {
	m := &maker{seed: 6}
	for range 3000 {
		text := m.program()
		table, err := Check(mustParse(t, text))
		other, otherErr := Check(mustParse(t, "\n\n\n"+text))
		if api.Tell(err) != api.Tell(otherErr) || told(table) != told(other) {
			t.Fatalf("%q: %s, error %d, but with line feeds %s, error %d", text, told(table), api.Tell(err), told(other), api.Tell(otherErr))
		}
		if err != nil && line(otherErr) != line(err)+3 {
			t.Fatalf("%q: at %d, shifted at %d", text, line(err), line(otherErr))
		}
	}
}

// The whole, 1: what is right stays right with more behind it.
func TestMoreBehind(t *testing.T) {
	m := &maker{seed: 8}
	right := 0
	for range 3000 {
		text := m.program()
		table, err := Check(mustParse(t, text))
		if err != nil {
			continue
		}
		right++
		more, err := Check(mustParse(t, text+"\nclass New { field n; init(n) {} }\nfn more(n) { return n; }\nvar n = more(new New(a));"))
		if err != nil || !strings.HasPrefix(told(more), told(&Table{Classes: table.Classes})) {
			t.Fatalf("%q: with more behind it error %d at %d, %s", text, api.Tell(err), line(err), told(more))
		}
	}
	if right < 300 {
		t.Errorf("%d programs are right: too few", right)
	}
}

// 2.3: what a table says of a right program holds together.
func TestTablesHold(t *testing.T) {
	m := &maker{seed: 9}
	for range 10_000 {
		text := m.program()
		table, err := Check(mustParse(t, text))
		if err != nil {
			continue
		}
		for i, c := range table.Classes {
			var above []string
			if c.Above != -1 {
				above = table.Classes[c.Above].Fields
			}
			if table.Class(c.Name) != i || len(c.Fields) < len(above) || strings.Join(c.Fields[:len(above)], " ") != strings.Join(above, " ") {
				t.Fatalf("%q: %s", text, told(table))
			}
			for _, own := range c.Methods {
				if found, at := table.Method(i, own.Text); found != own || at != i {
					t.Fatalf("%q: %s of %s is found in %d", text, own.Text, c.Name, at)
				}
			}
		}
	}
}

// P1: any node of a program may be handed in.
func TestAnyNode(t *testing.T) {
	var each func(n *api.Node)
	each = func(n *api.Node) {
		if table, err := Check(n); (table == nil) == (err == nil) {
			t.Errorf("node of kind %d: %v, %v", n.Kind, table, err)
		}
		for _, k := range n.Kids {
			each(k)
		}
	}
	m := &maker{seed: 10}
	for range 500 {
		each(mustParse(t, m.program()))
	}
}

// P4: what is handed in stays as it was; what comes out is fresh, and no two lists of it share memory.
func TestFresh(t *testing.T) {
	n, same := mustParse(t, sample), mustParse(t, sample)
	kept := mustCheck(t, sample)
	want := told(kept)
	for i := range kept.Classes {
		a, err := Check(n)
		if err != nil || told(a) != want {
			t.Fatalf("another table: %s, want %s", told(a), want)
		}
		for _, c := range a.Classes {
			_, _ = append(c.Fields, "more"), append(c.Methods, nil) // into what stands behind the lists
		}
		_, _ = append(a.Classes, Class{}), append(a.Fns, nil)
		if told(a) != want {
			t.Errorf("two lists share memory: %s, want %s", told(a), want)
		}
		clear(a.Classes[i].Fields)
		clear(a.Classes[i].Methods)
		a.Classes[i] = kept.Classes[i]
		if told(a) != want {
			t.Errorf("class %d shares memory with another one: %s, want %s", i, told(a), want)
		}
		clear(a.Classes)
		clear(a.Fns)
	}
	if !plain.Same(n, same) {
		t.Errorf("Check changed what it was given")
	}
}

// P4: what a call answers hangs on its arguments alone, however many there are at the same time.
func TestAtTheSameTime(t *testing.T) {
	n := mustParse(t, sample)
	bad := mustParse(t, sample+"print(z);")
	want := told(mustCheck(t, sample))
	var wait sync.WaitGroup
	for range 8 {
		wait.Go(func() {
			for range 50 {
				if table, err := Check(n); err != nil || told(table) != want {
					t.Errorf("another table")
				}
				if _, err := Check(bad); api.Tell(err) != api.ErrName || line(err) != 9 {
					t.Errorf("another error: %d at %d", api.Tell(err), line(err))
				}
			}
		})
	}
	wait.Wait()
}
