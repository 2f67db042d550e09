package syntax

import (
	"errors"
	"strings"
	"sync"
	"testing"

	"rewind/api"
	"rewind/plain"
)

// soup is a text of tokens in no order, and of bytes that are none.
func soup(m *maker) string {
	l := append(strings.Fields(allWords), "a", "b", "A", "0", "1", "9223372036854775809", `"s"`, `"`, `\`, "||", "&&", "==", "|", "\n", "\t", "$", "\x00", "\xff", "abcdefghijklmnopq")
	l = append(l, strings.Split("(){}[];,.=<+-*/%!(){}[];,.;;", "")...)
	var b strings.Builder
	for range m.n(40) {
		b.WriteString(l[m.n(len(l))] + []string{"", " "}[m.n(2)])
	}
	return b.String()
}

// P1 to P3: whatever is given, Parse ends with a program or an error at a place in the text.
func TestAnyText(t *testing.T) {
	m := &maker{seed: 7}
	for range 20_000 {
		text := soup(m)
		if m.n(3) > 0 { // one piece of a program left out, or put in
			good := loud(m.program(), m.gap)
			i := m.n(len(good) + 1)
			text = good[:i] + text[:min(len(text), 3)] + good[min(len(good), i+m.n(3)):]
		}
		n, err := Parse(text)
		if err == nil {
			if n == nil || n.Kind != api.Program || Many(n) > api.MaxNodes {
				t.Fatalf("%q: %s", text, sketch(n, false))
			}
			continue
		}
		at := place(err)
		if n != nil || at > len(text) || at < 0 && api.Tell(err) != api.ErrLimit {
			t.Fatalf("%q: error %d at %d", text, api.Tell(err), at)
		}
	}
}

// The whole, 1: what is wrong within a text's beginning hangs on nothing behind it.
func TestBeginnings(t *testing.T) {
	m := &maker{seed: 11}
	for range 300 {
		text := loud(m.program(), m.gap)
		if len(text) > api.MaxSource-20 {
			continue
		}
		for _, more := range []string{"$", " abcdefghijklmnopq", " 9999999999999999999 ;", "\""} {
			bad := text + more
			_, err := Parse(bad)
			if at := place(err); at != noPlace && at < len(text) && api.Tell(err) != api.ErrLimit {
				t.Fatalf("%q: error %d at %d", bad, api.Tell(err), at)
			}
		}
	}
}

// P3: an error is an At, or an Errno.
func TestErrorKinds(t *testing.T) {
	_, err := Parse("a")
	var at *api.At
	if !errors.As(err, &at) || at.Err != api.ErrForm || at.Place != 1 {
		t.Errorf("%v", err)
	}
	if e, p := plain.Place(err); e != api.ErrForm || p != 1 {
		t.Errorf("%d at %d", e, p)
	}
	if _, err = Parse(strings.Repeat(" ", api.MaxSource+1)); err != error(api.ErrLimit) {
		t.Errorf("%v", err)
	}
	if _, err = Parse(strings.Repeat("1;", 600)); err != error(api.ErrLimit) {
		t.Errorf("%v", err)
	}
	if _, err = Parse("1;"); err != nil {
		t.Errorf("%v", err)
	}
}

const sample = "class A < B { field a; m(x, y) { return [x, y, super.m(x, y)]; } }\nfn f(a) { try { a.b[0] = -a; } catch (e) { print(fn(z) { return z(e); }); } }\n"

// P4: what comes out is the caller's; no two lists of it share memory; what is handed in is not written into.
func TestFresh(t *testing.T) {
	a, b := mustParse(t, sample), mustParse(t, sample)
	want, text := sketch(a, true), Text(a)
	if sketch(a, true) != want {
		t.Errorf("Text changed what it was given")
	}
	seen := map[*api.Node]bool{}
	var spoil func(n *api.Node)
	spoil = func(n *api.Node) {
		if seen[n] {
			t.Errorf("%s: in two places", sketch(n, false))
		}
		seen[n] = true
		for _, k := range n.Kids {
			spoil(k)
		}
		_ = append(n.Kids, &api.Node{Kind: api.Nil}) // into what stands behind the list
	}
	spoil(a)
	if sketch(a, true) != want {
		t.Errorf("two lists share memory: %s, want %s", sketch(a, true), want)
	}
	for n := range seen {
		*n = api.Node{}
	}
	if sketch(b, true) != want || Text(b) != text {
		t.Errorf("two programs share memory")
	}
	if c := mustParse(t, sample); sketch(c, true) != want || !plain.Same(b, c) {
		t.Errorf("Parse tells something else the second time")
	}
}

// P4: what a call answers hangs on its arguments alone, however many there are at the same time.
func TestAtTheSameTime(t *testing.T) {
	n := mustParse(t, sample)
	want, text := sketch(n, true), Text(n)
	var wait sync.WaitGroup
	for range 8 {
		wait.Go(func() {
			for range 50 {
				if other, err := Parse(sample); err != nil || sketch(other, true) != want || Text(n) != text || Many(n) != Many(other) {
					t.Errorf("another answer")
				}
				if _, err := Parse(sample + "$"); place(err) != len(sample) {
					t.Errorf("another error")
				}
			}
		})
	}
	wait.Wait()
}
