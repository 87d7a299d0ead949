package field

import (
	"errors"
	"testing"

	"bastion/api"
)

// P1.1, P1.2: within, an error is wrapped with its place, and a text's wraps its length's.
func TestFault(t *testing.T) {
	for _, r := range []struct {
		s    string
		at   int
		tell string
		want api.Errno
	}{
		{"\x00\x01", 1, "text at 1: number at 1: bastion: error 101", api.ErrFieldCut},
		{"\x09", 0, "text at 0: number at 0: bastion: error 100", api.ErrFieldForm},
		{"\x00", -1, "text at -1: number at -1: bastion: error 100", api.ErrFieldForm},
		{"\x01\x05abc", 0, "text at 0: bastion: error 101", api.ErrFieldCut},
		{"\x03\x01\x00\x01", 0, "text at 0: bastion: error 100", api.ErrFieldForm},
	} {
		_, _, err := readText(r.s, r.at)
		if err == nil || err.Error() != r.tell {
			t.Errorf("readText(%q, %d): %v, want %s", r.s, r.at, err, r.tell)
		}
		if !errors.Is(err, r.want) || errno(err) != r.want {
			t.Errorf("readText(%q, %d): %d, want %d", r.s, r.at, errno(err), r.want)
		}
	}
}

// P1.1, P1.2: no error is OK.
func TestNoFault(t *testing.T) {
	if e := errno(nil); e != api.OK {
		t.Errorf("errno(nil): %d", e)
	}
}
