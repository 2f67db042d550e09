package syntax

import (
	"rewind/api"
)

// fault is what is thrown when a text is no program: reading ends there, however deep it is.
type fault struct {
	err   api.Errno
	place int
}

// caught is the error of a fault. Whatever else was thrown is a mistake of this package, and is not to be taken for one of the text.
func caught(thrown any) error {
	f, ok := thrown.(fault)
	if !ok {
		panic(thrown)
	}
	return &api.At{Err: f.err, Place: f.place}
}
