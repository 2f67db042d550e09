package check

import (
	"iter"

	"rewind/api"
)

// heads are a program's classes and functions, ahead of what is within them.
type heads struct {
	classes []*api.Node
	fns     []*api.Node
	// numbers has for each name the number of the last class of that name.
	numbers map[string]int
}

func headsOf(program *api.Node) *heads {
	h := &heads{numbers: map[string]int{}}
	for _, n := range program.Kids {
		switch n.Kind {
		case api.Class:
			h.numbers[n.Text] = len(h.classes)
			h.classes = append(h.classes, n)
		case api.Fn:
			h.fns = append(h.fns, n)
		}
	}
	return h
}

// check goes through classes and functions as they stand in the program.
func (h *heads) check(program *api.Node) error {
	classes, fns := newNames(), newNames()
	for _, n := range program.Kids {
		switch n.Kind {
		case api.Class:
			if !classes.add(n.Text) {
				return wrong(api.ErrTwice, n)
			}
			if err := h.checkAbove(n); err != nil {
				return err
			}
		case api.Fn:
			if !fns.add(n.Text) {
				return wrong(api.ErrTwice, n)
			}
		}
	}
	return nil
}

func (h *heads) checkAbove(class *api.Node) error {
	if _, ok := h.numbers[class.Under]; class.Under != "" && !ok {
		return wrong(api.ErrMissing, class)
	}
	name := class.Text
	// Going up past each class once, and once more, is going round.
	for range len(h.classes) + 1 {
		number, ok := h.numbers[name]
		if !ok {
			return nil
		}
		name = h.classes[number].Under
	}
	return wrong(api.ErrCycle, class)
}

// above is the number of the class that one is under.
func (h *heads) above(class int) int {
	number, ok := h.numbers[h.classes[class].Under]
	if !ok {
		return none
	}
	return number
}

// down goes from the topmost class above one down to that one itself. It asks for heads that were checked: each way up has an end.
func (h *heads) down(class int) iter.Seq[int] {
	return func(yield func(int) bool) {
		var way []int
		for at := class; at != none; at = h.above(at) {
			way = append(way, at)
		}
		for i := len(way) - 1; i >= 0; i-- {
			if !yield(way[i]) {
				return
			}
		}
	}
}

// table is made of heads that were checked; fields and methods are checked on the way.
func (h *heads) table() (*Table, error) {
	t := &Table{Fns: h.fns}
	for number, n := range h.classes {
		fields, err := h.fields(number)
		if err != nil {
			return nil, err
		}
		methods, err := methodsOf(n)
		if err != nil {
			return nil, err
		}
		t.Classes = append(t.Classes, Class{Name: n.Text, Above: h.above(number), Fields: fields, Methods: methods})
	}
	return t, nil
}

// fields are those of the classes above, then a class's own.
func (h *heads) fields(class int) ([]string, error) {
	var l []string
	seen := newNames()
	for at := range h.down(class) {
		for _, n := range h.classes[at].Kids {
			if n.Kind != api.Field {
				continue
			}
			if !seen.add(n.Text) {
				return nil, wrong(api.ErrTwice, h.blamed(n, at, class))
			}
			l = append(l, n.Text)
		}
	}
	return l, nil
}

// blamed is what a field of a class (at) that is there already is told of, when another class (asked) is gone through: the field, if it is that class's own.
func (h *heads) blamed(field *api.Node, at, asked int) *api.Node {
	if at == asked {
		return field
	}
	return h.classes[asked]
}

func methodsOf(class *api.Node) ([]*api.Node, error) {
	var l []*api.Node
	seen := newNames()
	for _, n := range class.Kids {
		if n.Kind != api.Method {
			continue
		}
		if !seen.add(n.Text) {
			return nil, wrong(api.ErrTwice, n)
		}
		l = append(l, n)
	}
	return l, nil
}
