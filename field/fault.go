package field

import (
	"errors"
	"strconv"

	"bastion/api"
)

// fault is why a number or a text could not be read, and where it begins.
type fault struct {
	what string
	at   int
	why  error
}

// Error tells what could not be read, where, and why.
func (f *fault) Error() string {
	return f.what + " at " + strconv.Itoa(f.at) + ": " + f.why.Error()
}

// Unwrap gives the reason.
func (f *fault) Unwrap() error {
	return f.why
}

// errno gives the error's number, however deep it is wrapped.
func errno(err error) api.Errno {
	var e api.Errno
	if errors.As(err, &e) {
		return e
	}
	return api.OK
}
