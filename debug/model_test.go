package debug

import (
	"fmt"
	"slices"
	"strings"
	"testing"

	"rewind/api"
	"rewind/inspect"
)

// model stands as a Debugger must: it has all that there is behind each number of events, and goes through all places each time.
type model struct {
	events []api.Event
	// By numbers of events: how many functions are under way, which identity was the last one, and the variables of the last function.
	deep, given []int
	vars        [][]inspect.Var
	at          int
	lines       []int
	throws      bool
}

// modelOf is that of a run, of one machine that nobody kept.
func modelOf(t *testing.T, u run) *model {
	t.Helper()
	m := &model{}
	for x := u.gone(t, 0); ; {
		m.deep, m.given = append(m.deep, len(x.State().Frames)), append(m.given, x.Heap().Last())
		l, err := inspect.Frames(x)
		if err != nil {
			t.Fatalf("no functions: %v", err)
		}
		// Behind the end no function is told, so there are no variables.
		l = append([]inspect.Frame{{}}, l...)
		m.vars = append(m.vars, l[len(l)-1].Vars)
		e, ok := x.Next()
		if !ok {
			return m
		}
		m.events = append(m.events, e)
	}
}

// fits: is the last event of a place as it is told of a way, from where it stands?
func (m *model) fits(way string, n int) bool {
	e := m.events[n-1]
	switch way {
	case "Step", "Back":
		return e.Kind == api.Stop
	case "Next", "Prev":
		return e.Kind == api.Stop && m.deep[n] <= m.deep[m.at]
	case "Finish", "Came":
		return e.Kind == api.Stop && m.deep[n] < m.deep[m.at]
	}
	return e.Kind == api.Stop && slices.Contains(m.lines, e.Line) || e.Kind == api.Thrown && m.throws
}

// goes goes a way.
func (m *model) goes(way string) bool {
	ahead, behind := []int{}, []int{}
	for n := 1; n <= len(m.events); n++ {
		if n > m.at && m.fits(way, n) {
			ahead = append(ahead, n)
		}
		if n < m.at && m.fits(way, n) {
			behind = append(behind, n)
		}
	}
	forth := slices.Contains([]string{"Step", "Next", "Finish", "Continue"}, way)
	switch {
	case forth && len(ahead) > 0:
		m.at = slices.Min(ahead)
	case forth:
		m.at = len(m.events)
	case len(behind) > 0:
		m.at = slices.Max(behind)
	default:
		m.at = 0
	}
	return forth && len(ahead) > 0 || !forth && len(behind) > 0
}

func (m *model) Break(line int, on bool) api.Errno {
	if line <= 0 || line > api.MaxSource {
		return api.ErrRange
	}
	m.lines = slices.DeleteFunc(m.lines, func(l int) bool { return l == line })
	if on {
		m.lines = append(m.lines, line)
	}
	return api.OK
}

func (m *model) Goto(n int) api.Errno {
	if n < 0 || n > len(m.events) {
		return api.ErrRange
	}
	m.at = n
	return api.OK
}

func (m *model) Born(id int) api.Errno {
	for n, given := range m.given {
		if 0 < id && id <= given {
			m.at = n
			return api.OK
		}
	}
	return api.ErrMissing
}

func (m *model) Print(name string) (string, api.Errno) {
	is, told := "", api.ErrMissing
	for _, v := range m.vars[m.at] {
		if v.Name == name {
			is, told = v.Is, api.OK
		}
	}
	return is, told
}

func (m *model) where() string { return fmt.Sprint(" at ", m.at, " ", told(last(m.events, m.at))) }

// call is one of those that may be made of a debugger.
type call struct {
	name string
	n    int
	on   bool
	text string
}

// calls draws some, of a run with so many events and identities.
func calls(d *die, many, events, given int) (l []call) {
	all := ways()
	for range many {
		c := call{n: d.n(12) - 1, on: d.n(4) > 0, text: []string{"a", "b", "c", "d", "e", "i", "x", "this", "n"}[d.n(9)]}
		switch k := d.n(16); k {
		case 8, 9:
			c.name, c.n = "Goto", d.n(events+4)-2
		case 10:
			c.name, c.n = "Born", d.n(given+4)-1
		case 11, 12:
			c.name = "Break"
		case 13:
			c.name = "Throws"
		case 14, 15:
			c.name = "Print"
		default:
			c.name = all[k].name
		}
		l = append(l, c)
	}
	return l
}

// made makes a call, and tells what is told, and where it stands then.
func (c call) made(d *Debugger) string {
	s := ""
	switch c.name {
	case "Goto":
		s = fmt.Sprint(int(api.Tell(d.Goto(c.n))))
	case "Born":
		s = fmt.Sprint(int(api.Tell(d.Born(c.n))))
	case "Break":
		s = fmt.Sprint(int(api.Tell(d.Break(c.n, c.on))))
	case "Throws":
		d.Throws(c.on)
	case "Print":
		is, err := d.Print(c.text)
		s = fmt.Sprint(is, int(api.Tell(err)))
	default:
		i := slices.IndexFunc(ways(), func(w way) bool { return w.name == c.name })
		s = fmt.Sprint(ways()[i].goes(d))
	}
	at, e := d.Where()
	return s + fmt.Sprint(" at ", at, " ", told(e))
}

// modelled is the same of a model.
func (c call) modelled(m *model) string {
	s := ""
	switch c.name {
	case "Goto":
		s = fmt.Sprint(int(m.Goto(c.n)))
	case "Born":
		s = fmt.Sprint(int(m.Born(c.n)))
	case "Break":
		s = fmt.Sprint(int(m.Break(c.n, c.on)))
	case "Throws":
		m.throws = c.on
	case "Print":
		is, told := m.Print(c.text)
		s = fmt.Sprint(is, int(told))
	default:
		s = fmt.Sprint(m.goes(c.name))
	}
	return s + m.where()
}

// wantModel holds a debugger against a model, call by call.
func wantModel(t *testing.T, what string, d *Debugger, m *model, l []call) {
	t.Helper()
	for i, c := range l {
		if got, want := c.made(d), c.modelled(m); got != want {
			t.Fatalf("%s\nbehind %+v\n%+v: %s, want %s", what, l[max(0, i-20):i], c, got, want)
		}
	}
}

// some are numbers of events of which ways are gone: all of a short run; of a long one those at both ends, and some between.
func some(all int) (l []int) {
	for n := range all + 1 {
		if n < 40 || n > all-40 || n%97 == 0 {
			l = append(l, n)
		}
	}
	return l
}

// 9.1: of runs of all ends, each of the eight ways, from behind none, from numbers of events between, and from the end, with no line, one, and several, and with Throws.
func TestWaysOfAllRuns(t *testing.T) {
	for name, u := range samples(t) {
		m := modelOf(t, u)
		for _, every := range []int{1, 13, api.MaxEvents} {
			d := u.debugger(t, every)
			for lines := range 4 {
				d.Throws(lines%2 == 1)
				m.throws = lines%2 == 1
				for _, w := range ways() {
					for _, n := range some(len(m.events)) {
						stand(t, d, n)
						m.at = n
						got := fmt.Sprint(w.goes(d), where(d))
						if want := fmt.Sprint(m.goes(w.name), m.at); got != want {
							t.Fatalf("%s, every %d, lines %v, Throws %v: %s from %d: %s, want %s", name, every, m.lines, m.throws, w.name, n, got, want)
						}
					}
				}
				wantError(t, name, d.Break(2*lines+1, true), m.Break(2*lines+1, true))
			}
			m.lines = nil
		}
	}
}

// The model tells what is written out of a program, so that others may be held against it.
func TestModel(t *testing.T) {
	m := modelOf(t, runOf(t, throwing))
	var l []string
	for _, way := range []string{"Step", "Next", "Finish", "Came", "Prev", "Back", "Continue", "Reverse"} {
		m.at = 4
		l = append(l, fmt.Sprint(m.goes(way), m.at))
	}
	if got := strings.Join(l, " "); got != "true 7 true 7 true 7 true 3 true 3 true 3 false 12 false 0" {
		t.Errorf("from behind 4 events: %s", got)
	}
}
