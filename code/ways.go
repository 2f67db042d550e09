package code

// maxValues is how many values may be on the stack.
const maxValues = 200

// notCome is how many values there are at an instruction to which no way came so far.
const notCome = -1

// ways are those through a function's code.
type ways struct {
	code []Instr
	// values has of each instruction how many there are ahead of it.
	values []int
	// open are the instructions from which one has to go on yet.
	open []int
}

// rightWays: does each way through a function, all of whose names are right, find the values that it takes, as many as each other one?
func rightWays(f *Func) bool {
	w := &ways{code: f.Code, values: make([]int, len(f.Code))}
	for at := range w.values {
		w.values[at] = notCome
	}
	if !w.come(0, 0) {
		return false
	}
	for _, h := range f.Handlers {
		if !w.come(h.Target, 1) {
			return false
		}
	}
	for len(w.open) > 0 {
		last := len(w.open) - 1
		at := w.open[last]
		w.open = w.open[:last]
		if !w.goOn(at) {
			return false
		}
	}
	return true
}

// come notes that one comes to an instruction with so many values; false: that may not be.
func (w *ways) come(at, values int) bool {
	if at >= len(w.code) || values > maxValues {
		return false
	}
	if w.values[at] != notCome {
		return w.values[at] == values
	}
	w.values[at] = values
	w.open = append(w.open, at)
	return true
}

// goOn does an instruction, and comes to all those that may be next.
func (w *ways) goOn(at int) bool {
	i := w.code[at]
	takes, leaves := stack(i)
	rest := w.values[at] - takes
	if rest < 0 {
		return false
	}
	switch i.Op {
	case Return, Throw:
		return true
	case Jump:
		return w.come(i.A, rest)
	case Unless:
		return w.come(i.A, rest) && w.come(at+1, rest)
	case IfTrue, IfFalse:
		// What it asks stays there, if it goes to A.
		return w.come(i.A, rest+1) && w.come(at+1, rest)
	}
	return w.come(at+1, rest+leaves)
}
