package compile

import (
	"iter"
	"slices"

	"rewind/code"
)

// unit is one function that is being made: its code so far, and what is seen where that ends.
type unit struct {
	made code.Func
	// around is the function in which a Lambda stands; the others see nothing around them.
	around *unit
	// class is that in whose methods it stands (-1: in none).
	class  int
	scopes []scope
	// free is the first slot that no variable of these scopes has.
	free int
	// held are the variables of the function around that a closure of this one holds, in its order.
	held []place
}

// scope has the variables that are declared in it so far.
type scope struct {
	variables []variable
	// free is the first slot that was free where it began: all from it on are free again where it ends.
	free int
}

// variable is one in a slot; number: which one of the function's Vars it is.
type variable struct {
	name   string
	slot   int
	boxed  bool
	number int
}

// place is where a function finds a variable: in a slot, or among what its closure holds; there the variable itself lies, or the box that has it.
type place struct {
	held  bool
	boxed bool
	at    int
}

// emit adds an instruction, which names nothing, A, or A and B.
func (u *unit) emit(op int, names ...int) {
	var ab [2]int
	copy(ab[:], names)
	u.made.Code = append(u.made.Code, code.Instr{Op: op, A: ab[0], B: ab[1]})
}

// here is where the next instruction will stand.
func (u *unit) here() int { return len(u.made.Code) }

// ahead emits an instruction that goes to a place which is not known yet; it is come to by land.
func (u *unit) ahead(op int) (from int) {
	from = u.here()
	u.emit(op)
	return from
}

// land makes an instruction go here.
func (u *unit) land(from int) {
	u.made.Code[from].A = u.here()
}

func (u *unit) open() {
	u.scopes = append(u.scopes, scope{free: u.free})
}

// close leaves the innermost scope. Its variables are there yet when its last instruction is done, but not behind the next one.
func (u *unit) close() {
	last := len(u.scopes) - 1
	for _, v := range u.scopes[last].variables {
		u.made.Vars[v.number].To = u.here()
	}
	u.free = u.scopes[last].free
	u.scopes = u.scopes[:last]
}

// slot is a new variable's.
func (u *unit) slot() int {
	u.free++
	u.made.Slots = max(u.made.Slots, u.free)
	return u.free - 1
}

// begin declares variables in the innermost scope: from here on they are there.
func (u *unit) begin(variables ...variable) {
	inner := &u.scopes[len(u.scopes)-1]
	for _, v := range variables {
		v.number = len(u.made.Vars)
		inner.variables = append(inner.variables, v)
		u.made.Vars = append(u.made.Vars, code.Var{Name: v.name, Slot: v.slot, From: u.here(), To: u.here(), Boxed: v.boxed})
	}
}

// outward goes through the scopes, the innermost one first.
func (u *unit) outward() iter.Seq[scope] {
	return func(yield func(scope) bool) {
		for _, s := range slices.Backward(u.scopes) {
			if !yield(s) {
				return
			}
		}
	}
}

// find is where a name's variable is; one of a function around is held from then on.
func (u *unit) find(name string) (_ place, ok bool) {
	for s := range u.outward() {
		for _, v := range s.variables {
			if v.name == name {
				return place{at: v.slot, boxed: v.boxed}, true
			}
		}
	}
	if u.around == nil {
		return place{}, false
	}
	p, ok := u.around.find(name)
	if !ok {
		return place{}, false
	}
	return place{held: true, at: u.hold(p), boxed: p.boxed}, true
}

// hold is which one of the held a variable of the function around is.
func (u *unit) hold(p place) int {
	at := slices.Index(u.held, p)
	if at < 0 {
		at = len(u.held)
		u.held = append(u.held, p)
	}
	return at
}
