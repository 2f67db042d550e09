package debug

import "rewind/api"

// Step goes to the next statement; Back to the one before.
func (d *Debugger) Step() (_ bool) { return d.forth(d.isStop) }

// Back goes to the statement before.
func (d *Debugger) Back() (_ bool) { return d.back(d.isStop) }

// Next goes to the next statement in this function, or one below it; Prev to the one before.
func (d *Debugger) Next() (_ bool) { return d.forth(d.atMost(d.deep())) }

// Prev goes to the statement before in this function, or one below it.
func (d *Debugger) Prev() (_ bool) { return d.back(d.atMost(d.deep())) }

// Finish goes to the next statement in a function below this one.
func (d *Debugger) Finish() (_ bool) { return d.forth(d.atMost(d.deep() - 1)) }

// Came goes back to the statement from which this function was come to.
func (d *Debugger) Came() (_ bool) { return d.back(d.atMost(d.deep() - 1)) }

// Continue goes to the next place where it is to stop; Reverse to the one before.
func (d *Debugger) Continue() (_ bool) { return d.forth(d.isWanted) }

// Reverse goes back to the place before where it is to stop.
func (d *Debugger) Reverse() (_ bool) { return d.back(d.isWanted) }

// forth goes to the nearest place ahead that is one of those looked for. False: there is none, and it stands at the end.
func (d *Debugger) forth(isOne func(n int) bool) bool {
	if d.lost() {
		return false
	}
	for d.at < len(d.events) {
		d.at++
		if isOne(d.at) {
			return true
		}
	}
	return false
}

// back goes to the nearest place behind, likewise. False: there is none, and it stands at the beginning, which is none: no event is its last one.
func (d *Debugger) back(isOne func(n int) bool) bool {
	if d.lost() {
		return false
	}
	for d.at > 0 {
		d.at--
		if isOne(d.at) {
			return true
		}
	}
	return false
}

// last is the last one of so many events; zero, if there is none.
func (d *Debugger) last(n int) api.Event {
	if n == 0 {
		return api.Event{}
	}
	return d.events[n-1]
}

// deep is how many functions are under way where it stands.
func (d *Debugger) deep() int {
	if d.lost() {
		return 0
	}
	return d.seen()[d.at].deep
}

func (d *Debugger) isStop(n int) bool { return d.last(n).Kind == api.Stop }

// isWanted: does it break at that line, or does it stop where something is thrown, as there?
func (d *Debugger) isWanted(n int) bool {
	e := d.last(n)
	switch e.Kind {
	case api.Stop:
		_, on := d.lines[e.Line]
		return on
	case api.Thrown:
		return d.throws
	}
	return false
}

// atMost tells of places whether they are Stops where not more functions than so many are under way.
func (d *Debugger) atMost(deep int) func(n int) bool {
	return func(n int) bool { return d.isStop(n) && d.seen()[n].deep <= deep }
}
