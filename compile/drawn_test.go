package compile

import (
	"testing"

	"rewind/api"
	"rewind/check"
	"rewind/syntax"
)

// 4.1 to 4.5: of programs that look drawn Compile says what Check says; what it makes may be run, and does what they do.
func TestAnyProgram(t *testing.T) {
	d := &drawer{seed: 4}
	found := map[string]int{}
	for range 6_000 {
		text := d.program()
		n, err := syntax.Parse(text)
		if err != nil {
			continue // It came out too great.
		}
		_, want := check.Check(n)
		m, err := Compile(n)
		if api.Tell(err) != api.Tell(want) || line(err) != line(want) || (m == nil) != (err != nil) {
			t.Fatalf("%s\nerror %d at %d beside %v, want %d at %d", text, api.Tell(err), line(err), m, api.Tell(want), line(want))
		}
		if err != nil {
			found["wrong"]++
			continue
		}
		wantRuns(t, text, m)
		inputs := []int{7, 0, -1}
		events := walk(n, inputs)
		if got, want := told(run(t, m, inputs)), told(events); got != want {
			t.Fatalf("%s\ndoes %s, want %s", text, got, want)
		}
		for _, e := range events {
			switch e.Kind {
			case api.Thrown:
				found[e.Text]++
			case api.Caught:
				found["caught"]++
			case api.Done, api.Dead:
				found["ended"]++
			}
		}
	}
	for _, what := range []string{"wrong", "ended", "caught", "type", "zero", "index", "name", "arity", "depth"} {
		if found[what] < 20 {
			t.Errorf("%s: %d times: too seldom", what, found[what])
		}
	}
}
