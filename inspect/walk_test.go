package inspect

import (
	"fmt"
	"slices"
	"strings"

	"rewind/api"
)

// thing is an object: an instance, a list (node and names are nil), or a function.
type thing struct {
	id    int
	class string
	names []string
	has   []any
	// A function's Lambda, and what it sees: the variables around it, and what this is there, in which class.
	node   *api.Node
	around *variable
	in     *under
}

// variable is one; before is the one that was declared ahead of it and is seen where it is seen.
type variable struct {
	name   string
	is     any
	before *variable
}

// under is a function that is under way.
type under struct {
	name string
	line int
	// this: in methods, and in functions within them, which do not tell it as their own; class: in which the method stands.
	this   *thing
	class  string
	method bool
	// around is what the function sees of others' variables, here the last variable that is seen, there the last one that is there for whoever looks: it is here's, when an event is told.
	around, here, there *variable
}

// attempt is a Try under way: in which function, and which variables were there.
type attempt struct {
	deep int
	here *variable
}

// thrown is on its way to who catches it; tooMany ends a run.
type (
	thrown  struct{ value any }
	tooMany struct{}
)

// walker does what a program does, node by node (4.2 to 4.5), and notes behind each event what 8.1 and 8.2 ask.
type walker struct {
	program *api.Node
	inputs  []int
	made    int
	under   []*under
	tries   []attempt
	// returned is what a Return returns.
	returned any
	notes    []sight
}

// walk are the sights of a program, from that behind no event on.
func walk(n *api.Node, inputs ...int) []sight {
	w := &walker{program: n, inputs: inputs, under: []*under{{name: "main"}}}
	w.notes = []sight{{"-", w.framesText(), w.objectsText()}}
	w.whole()
	return w.notes
}

func (w *walker) whole() {
	defer func() {
		switch r := recover().(type) {
		case nil, tooMany:
		case thrown:
			w.end(api.Event{Kind: api.Dead, Text: w.show(r.value)})
		default:
			panic(r)
		}
	}()
	w.statements(w.program.Kids)
	w.end(api.Event{Kind: api.Done})
}

// tell notes an event; behind the last one that may be it is over.
func (w *walker) tell(e api.Event) {
	if len(w.notes) == api.MaxEvents {
		w.end(e)
		panic(tooMany{})
	}
	w.notes = append(w.notes, sight{event(e), w.framesText(), w.objectsText()})
}

// end notes an event behind which it is over: there is nothing.
func (w *walker) end(e api.Event) { w.notes = append(w.notes, sight{event: event(e)}) }

func (w *walker) top() *under { return w.under[len(w.under)-1] }

// own are the variables of a function that are there, in the order of the text, a method's this first.
func (u *under) own() (l []variable) {
	for v := u.there; v != u.around; v = v.before {
		l = append(l, *v)
	}
	if u.method {
		l = append(l, variable{name: "this", is: u.this})
	}
	slices.Reverse(l)
	return l
}

func (w *walker) framesText() string {
	var l []string
	for _, u := range w.under {
		var vars []string
		for _, v := range u.own() {
			vars = append(vars, v.name+" "+w.show(v.is))
		}
		l = append(l, fmt.Sprint(u.name, " ", u.line, ": ", strings.Join(vars, ", ")))
	}
	return strings.Join(l, "; ")
}

func (w *walker) objectsText() string {
	found := map[int]string{}
	for _, u := range w.under {
		for _, v := range u.own() {
			w.lead(v.is, found)
		}
	}
	var l []string
	for id := range w.made + 1 {
		if s, ok := found[id]; ok {
			l = append(l, s)
		}
	}
	return strings.Join(l, "; ")
}

// lead notes the object to which a value leads, and those to which that leads.
func (w *walker) lead(is any, found map[int]string) {
	o, ok := is.(*thing)
	if !ok || found[o.id] != "" {
		return
	}
	found[o.id] = "under way"
	var has []string
	for i, is := range o.has {
		name := fmt.Sprint(i)
		if o.names != nil {
			name = o.names[i]
		}
		has = append(has, name+" "+w.show(is))
		w.lead(is, found)
	}
	found[o.id] = w.show(o) + ": " + strings.Join(has, ", ")
}

func (w *walker) show(is any) string {
	switch v := is.(type) {
	case nil:
		return "nil"
	case *thing:
		return fmt.Sprint(v.class, "#", v.id)
	}
	return fmt.Sprint(is)
}

// throw tells what is thrown, when what does not catch it is left, and throws it.
func (w *walker) throw(v any) {
	line := w.top().line
	if many := len(w.tries); many > 0 {
		t := w.tries[many-1]
		w.tries, w.under = w.tries[:many-1], w.under[:t.deep]
		w.top().here, w.top().there = t.here, t.here
	} else {
		w.under = w.under[:1]
		w.under[0].here, w.under[0].there = nil, nil
	}
	w.tell(api.Event{Kind: api.Thrown, Line: line, Text: w.show(v)})
	panic(thrown{v})
}

// statements go through a list until one of them returns from the function.
func (w *walker) statements(l []*api.Node) (returns bool) {
	for _, n := range l {
		if n.Kind == api.Class || n.Kind == api.Fn {
			continue
		}
		if w.statement(n) {
			return true
		}
	}
	return false
}

// block is a scope of its own.
func (w *walker) block(l []*api.Node) (returns bool) {
	u := w.top()
	here := u.here
	returns = w.statements(l)
	u.here = here
	return returns
}

func (w *walker) statement(n *api.Node) (returns bool) {
	u := w.top()
	u.line, u.there = n.Line, u.here
	w.tell(api.Event{Kind: api.Stop, Line: n.Line})
	switch n.Kind {
	case api.Var:
		u.here = &variable{n.Text, w.value(n.Kids[0]), u.here}
	case api.Set:
		w.set(n.Kids[0], n.Kids[1])
	case api.If:
		if w.truth(w.value(n.Kids[0])) {
			return w.block(n.Kids[1].Kids)
		}
		return len(n.Kids) == 3 && w.block(n.Kids[2].Kids)
	case api.While:
		return w.truth(w.value(n.Kids[0])) && (w.block(n.Kids[1].Kids) || w.statement(n))
	case api.Return:
		w.returned = nil
		if len(n.Kids) == 1 {
			w.returned = w.value(n.Kids[0])
		}
		return true
	case api.Throw:
		w.throw(w.value(n.Kids[0]))
	case api.Try:
		return w.try(n.Kids[0].Kids, n.Kids[1])
	case api.Print:
		w.tell(api.Event{Kind: api.Out, Text: w.show(w.value(n.Kids[0]))})
	case api.Do:
		w.value(n.Kids[0])
	}
	return false
}

func (w *walker) try(block []*api.Node, catch *api.Node) (returns bool) {
	v, throws, returns := w.tried(block)
	if !throws {
		return returns
	}
	u := w.top()
	u.line = catch.Line
	w.tell(api.Event{Kind: api.Caught, Line: catch.Line})
	here := u.here
	u.here = &variable{catch.Text, v, here}
	returns = w.block(catch.Kids[0].Kids)
	u.here = here
	return returns
}

// tried does a Try's block: does it throw, and what?
func (w *walker) tried(block []*api.Node) (v any, throws, returns bool) {
	many := len(w.tries)
	w.tries = append(w.tries, attempt{len(w.under), w.top().here})
	defer func() {
		switch r := recover().(type) {
		case nil:
		case thrown:
			v, throws = r.value, true
		default:
			panic(r)
		}
	}()
	returns = w.block(block)
	w.tries = w.tries[:many]
	return nil, false, returns
}
