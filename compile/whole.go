package compile

import (
	"slices"

	"rewind/api"
	"rewind/check"
	"rewind/code"
)

// none is the number of the class in whose methods a function stands that is in none.
const none = -1

// mainName is that of the program's own function, lambdaName that of each function of a Lambda.
const (
	mainName   = "main"
	lambdaName = "fn"
)

// whole is an image that is being made: what all its makers share.
type whole struct {
	table *check.Table
	// shared are the nodes of variables that lie in boxes.
	shared map[*api.Node]struct{}
	// numbers are those of the constants.
	numbers map[code.Const]int
	image   *code.Image
}

// imageOf makes the image of a program with which nothing is wrong. Its functions are the program's own, those of Fns, methods, then those of Lambdas.
func imageOf(n *api.Node, table *check.Table) *code.Image {
	w := &whole{
		table:   table,
		shared:  sharedOf(n),
		numbers: map[code.Const]int{},
		image:   &code.Image{},
	}
	w.reserve(mainName)
	for _, f := range table.Fns {
		w.reserve(f.Text)
	}
	for _, c := range table.Classes {
		w.class(c)
	}
	w.makeMain(n)
	for i, f := range table.Fns {
		w.makeFunc(fnNumber(i), f, none)
	}
	for i, c := range table.Classes {
		for j, m := range c.Methods {
			w.makeFunc(w.image.Classes[i].Methods[j], m, i)
		}
	}
	return w.image
}

// fnNumber is that of a Fn's function: they stand behind the program's own.
func fnNumber(fn int) int { return fn + 1 }

// reserve is the number of a function that will be made: calls of it may be made ahead of it.
func (w *whole) reserve(name string) int {
	w.image.Funcs = append(w.image.Funcs, code.Func{Name: name})
	return len(w.image.Funcs) - 1
}

func (w *whole) class(c check.Class) {
	made := code.Class{Name: c.Name, Above: c.Above, Fields: slices.Clone(c.Fields)}
	for _, m := range c.Methods {
		made.Names = append(made.Names, m.Text)
		made.Methods = append(made.Methods, w.reserve(c.Name+"."+m.Text))
	}
	w.image.Classes = append(w.image.Classes, made)
}

// constant is the number of one, of which there is none twice.
func (w *whole) constant(c code.Const) int {
	number, ok := w.numbers[c]
	if !ok {
		number = len(w.image.Consts)
		w.numbers[c] = number
		w.image.Consts = append(w.image.Consts, c)
	}
	return number
}

func (w *whole) text(s string) int {
	return w.constant(code.Const{Text: true, S: s})
}

// maker makes a unit of the whole.
type maker struct {
	*unit
	whole *whole
}

func (w *whole) makeMain(n *api.Node) {
	m := maker{unit: &unit{class: none}, whole: w}
	m.open()
	m.statements(n.Kids)
	m.finish(0)
}

func (w *whole) makeFunc(number int, n *api.Node, class int) {
	m := maker{unit: &unit{class: class}, whole: w}
	m.function(n)
	m.finish(number)
}

// finish ends a unit, which is whole then.
func (m maker) finish(number int) {
	m.emit(code.Nil)
	m.emit(code.Return)
	m.close()
	m.pack()
	m.made.Name = m.whole.image.Funcs[number].Name
	m.whole.image.Funcs[number] = m.made
}
