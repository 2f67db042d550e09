package desk

import (
	"rewind/api"
	"rewind/code"
	"rewind/compile"
	"rewind/debug"
	"rewind/replay"
	"rewind/syntax"
	"rewind/vm"
)

// every is how often machines of a run are kept: a way from one of them is short then, and there are few of them.
const every = 100

// run is a program with its inputs and collections, and a debugger of its recording.
type run struct {
	text            string
	inputs, collect []int
	program         *api.Node
	image           *code.Image
	events          []api.Event
	debugger        *debug.Debugger
}

// runOf runs a program to its end; its debugger stands at the beginning, and breaks nowhere.
func runOf(text string, inputs, collect []int) run {
	program := good(syntax.Parse(text))
	image := good(compile.Compile(program))
	room := vm.Config{Nursery: api.Nursery, Old: api.Old, Collect: collect}
	recording := good(replay.Record(image, room, inputs, every))
	return run{
		text:     text,
		inputs:   inputs,
		collect:  collect,
		program:  program,
		image:    image,
		events:   recording.Events(),
		debugger: good(debug.New(recording)),
	}
}
