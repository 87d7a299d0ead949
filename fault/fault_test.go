package fault

import (
	"errors"
	"math"
	"testing"

	"bastion/api"
)

// A fault tells its thing, its place and its reason, however deep that is wrapped.
func TestFault(t *testing.T) {
	for _, r := range []struct {
		err  error
		tell string
		want api.Errno
	}{
		{New("number", 3, api.ErrFieldCut), "number at 3: bastion: error 101", api.ErrFieldCut},
		{New("text", 1, New("number", 2, api.ErrFieldForm)), "text at 1: number at 2: bastion: error 100", api.ErrFieldForm},
		{New("", -1, New("row", 0, New("sector", 255, api.ErrDiskDown))), " at -1: row at 0: sector at 255: bastion: error 801", api.ErrDiskDown},
		{Of("record", math.MaxInt32, api.ErrRecordForm), "record at 2147483647: bastion: error 900", api.ErrRecordForm},
		{New("boot", 1024, Of("super", 0, api.ErrSuperForm)), "boot at 1024: super at 0: bastion: error 1000", api.ErrSuperForm},
	} {
		if r.err == nil || r.err.Error() != r.tell {
			t.Errorf("%v, want %s", r.err, r.tell)
		}
		var e api.Errno
		if !errors.Is(r.err, r.want) || !errors.As(r.err, &e) || e != r.want {
			t.Errorf("%s: %d, want %d", r.tell, e, r.want)
		}
		if errors.Is(r.err, api.ErrNil) {
			t.Errorf("%s: is ErrNil", r.tell)
		}
		var f *fault
		if !errors.As(r.err, &f) || f.Unwrap() == nil {
			t.Errorf("%s: no fault", r.tell)
		}
	}
}

// OK is no fault.
func TestNoFault(t *testing.T) {
	if err := Of("number", 3, api.OK); err != nil {
		t.Errorf("%v", err)
	}
}
