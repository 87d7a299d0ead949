// Package fault makes what the layers share that wrap errors: why a thing at a place
// could not be had.
package fault

import (
	"strconv"

	"bastion/api"
)

// fault is why a thing could not be had, what it is, and its place.
type fault struct {
	what string
	at   int
	why  error
}

// New wraps a reason with the thing and its place.
func New(what string, at int, why error) error {
	return &fault{what, at, why}
}

// Of wraps what a layer answered; OK is no fault.
func Of(what string, at int, e api.Errno) error {
	if e == api.OK {
		return nil
	}
	return New(what, at, e)
}

// Error tells the thing, its place, and the reason.
func (f *fault) Error() string {
	return f.what + " at " + strconv.Itoa(f.at) + ": " + f.why.Error()
}

// Unwrap gives the reason.
func (f *fault) Unwrap() error {
	return f.why
}
