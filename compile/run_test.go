package compile

import (
	"slices"
	"strings"
	"testing"

	"rewind/api"
	"rewind/code"
	"rewind/vm"
)

// roomy has room for all that a program makes: nothing is collected.
func roomy() vm.Config { return vm.Config{Nursery: 65_536, Old: 1} }

// rooms are those of machines on which an image that makes so many cells must do the same: some have to collect since there is no room, some do it at their Stops.
func rooms(made int) []vm.Config {
	return []vm.Config{
		{Nursery: 60, Old: max(1, made)},
		{Nursery: 60, Old: max(1, made), Collect: []int{1}},
		{Nursery: 600, Old: 60_000, Collect: []int{2}},
		{Nursery: 61, Old: 60_000, Collect: []int{0, 1, 2, 1}},
	}
}

// runIn are the events of an image on a machine with such a room; what is asked behind each event is seen, if it is there.
func runIn(t *testing.T, c vm.Config, m *code.Image, inputs []int, seen func(*vm.Machine)) (l []api.Event) {
	t.Helper()
	x, err := vm.New(m, c, inputs)
	if err != nil {
		t.Fatalf("no machine: error %d at %d", api.Tell(err), line(err))
	}
	for {
		e, ok := x.Next()
		if !ok {
			break
		}
		l = append(l, e)
		if seen != nil {
			seen(x)
		}
	}
	if x.Full() {
		t.Errorf("over for want of room: %+v", c)
	}
	return l
}

// run are the events of an image, whatever room there is.
func run(t *testing.T, m *code.Image, inputs []int) []api.Event {
	t.Helper()
	made := 0
	first := runIn(t, roomy(), m, inputs, func(x *vm.Machine) { made, _, _, _ = x.Heap().Use() })
	for _, c := range rooms(made) {
		if l := runIn(t, c, m, inputs, nil); !slices.Equal(l, first) {
			t.Errorf("does %s in %+v, else %s", told(l), c, told(first))
		}
	}
	return first
}

// seenAt are the events of an image, and behind each the variables of each function that is under way.
func seenAt(t *testing.T, m *code.Image) string {
	t.Helper()
	var seen []string
	l := runIn(t, vm.Config{Nursery: 60, Old: 60_000, Collect: []int{1}}, m, nil, func(x *vm.Machine) {
		s := ""
		for _, f := range x.State().Frames {
			s += "[" + strings.Join(seenIn(x, f), " ") + "]"
		}
		if x.Ended() {
			s = ""
		}
		seen = append(seen, s)
	})
	for i, e := range l {
		seen[i] = told([]api.Event{e}) + seen[i]
	}
	return strings.Join(seen, " ")
}

// seenIn are the variables that a function has by its Vars, where it is under way.
func seenIn(x *vm.Machine, f vm.Frame) (l []string) {
	for _, v := range x.Image().Funcs[f.Func].Vars {
		if f.At < v.From || f.At > v.To {
			continue
		}
		is := f.Slots[v.Slot]
		if v.Boxed {
			is, _ = x.Heap().Get(is.N, 0)
		}
		l = append(l, v.Name+"="+x.Show(is))
	}
	return l
}
