package replay

import "rewind/vm"

// maxCells is how many values kept machines have in all, if there are several: MaxEvents copies of a great heap would take more memory than there is.
const maxCells = 1 << 22

// shelf keeps machines of one run: the one behind no event, and then one every so many events.
type shelf struct {
	every    int
	most     int // cells that there is room for
	machines []*vm.Machine
	cells    int // that they take
}

// pass keeps a machine as it is, if it is the turn of its number of events.
func (s *shelf) pass(m *vm.Machine) {
	if m.Count()%s.every != 0 {
		return
	}
	s.put(m.Copy())
	for s.cells > s.most && len(s.machines) > 1 {
		s.thin()
	}
}

func (s *shelf) put(m *vm.Machine) {
	s.machines = append(s.machines, m)
	s.cells += cells(m)
}

// thin leaves every second machine alone there: from then on they are kept half as often. At takes longer then, nothing else hangs on it.
func (s *shelf) thin() {
	all := s.machines
	s.every, s.machines, s.cells = 2*s.every, nil, 0
	for i, m := range all {
		if i%2 == 0 {
			s.put(m)
		}
	}
}

// ahead is a copy of the last machine that is not behind more than so many events; false: nothing is kept.
func (s *shelf) ahead(n int) (*vm.Machine, bool) {
	if len(s.machines) == 0 {
		return nil, false
	}
	return s.machines[n/s.every].Copy(), true
}

// cells is how many values a machine has: in its heap, and in the functions that are under way.
func cells(m *vm.Machine) int {
	nursery, old, _, _ := m.Heap().Use()
	many := nursery + old
	for _, f := range m.State().Frames {
		many += len(f.Slots) + len(f.Stack)
	}
	return many
}
