package debug

import (
	"iter"
	"slices"

	"rewind/inspect"
	"rewind/vm"
)

// sight is what a machine has behind some events of its run.
type sight struct {
	deep  int // how many functions are under way
	given int // the last identity that was given
}

// seen are the sights behind each number of events. They are made when the first one is asked for, since whoever goes by lines alone needs none.
func (d *Debugger) seen() []sight {
	if d.sights == nil {
		d.sights = d.look()
	}
	return d.sights
}

// look leads one machine all the way: At would begin anew for each place.
func (d *Debugger) look() []sight {
	l := make([]sight, len(d.events)+1)
	m, err := d.run.At(0)
	if err != nil {
		return l
	}
	for n := range l {
		l[n] = sightOf(m)
		m.Next()
	}
	return l
}

func sightOf(m *vm.Machine) sight {
	return sight{deep: len(m.State().Frames), given: m.Heap().Last()}
}

// lastFirst goes through the variables of the last function under way, the last one first: of several that have one name that is the innermost one.
func lastFirst(frames []inspect.Frame) iter.Seq[inspect.Var] {
	return func(yield func(inspect.Var) bool) {
		if len(frames) == 0 {
			return
		}
		for _, v := range slices.Backward(frames[len(frames)-1].Vars) {
			if !yield(v) {
				return
			}
		}
	}
}
