package desk

import "rewind/api"

// fault is what is thrown when something is wrong with a line: it is done no further, however deep that is.
type fault struct{ err api.Errno }

// caught is the error of a fault. Whatever else was thrown is a mistake of the program, and is not to be taken for one of the line.
func caught(thrown any) api.Errno {
	f, ok := thrown.(fault)
	if !ok {
		panic(thrown)
	}
	return f.err
}

// must throws what a layer says, if that is an error.
func must(err error) {
	if err != nil {
		panic(fault{api.Tell(err)})
	}
}

// good is what a layer answers, unless that is an error.
func good[T any](answer T, err error) T {
	must(err)
	return answer
}
