package desk

import (
	"strconv"
	"strings"

	"rewind/api"
	"rewind/inspect"
)

// kinds are the words for events, by their kinds; the first one is for none.
var kinds = [...]string{
	"none",
	api.Stop:   "stop",
	api.Out:    "out",
	api.Thrown: "thrown",
	api.Caught: "caught",
	api.Done:   "done",
	api.Dead:   "dead",
}

// listed are things, each told by itself, with a text between.
func listed[T any](l []T, between string, one func(T) string) string {
	var parts []string
	for _, x := range l {
		parts = append(parts, one(x))
	}
	return strings.Join(parts, between)
}

func toldError(err api.Errno) string { return "error " + strconv.Itoa(int(err)) }

func toldEvent(e api.Event) string {
	s := kinds[e.Kind]
	if e.Line != 0 {
		s += " " + strconv.Itoa(e.Line)
	}
	if e.Text != "" {
		s += " " + e.Text
	}
	return s
}

func toldFrame(f inspect.Frame) string {
	return f.Func + " " + strconv.Itoa(f.Line) + ": " + toldVars(f.Vars)
}

func toldObject(o inspect.Object) string { return o.Is + ": " + toldVars(o.Has) }

func toldVars(l []inspect.Var) string { return listed(l, ", ", toldVar) }

func toldVar(v inspect.Var) string { return v.Name + " " + v.Is }
