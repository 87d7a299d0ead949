// Package field writes numbers and texts as bytes, and reads them back.
package field

import (
	"errors"
	"math/bits"
	"strings"

	"bastion/api"
	"bastion/fault"
)

// mostBytes is how many bytes may follow a number's first one.
const mostBytes = 4

// Num gives the bytes of x.
func Num(x int) (string, api.Errno) {
	if x < 0 || x > api.MaxNum {
		return "", api.ErrFieldForm
	}
	return string(appendNum(nil, x)), api.OK
}

// Text gives the bytes of s: its length as a number, then s.
func Text(s string) (string, api.Errno) {
	if len(s) > api.MaxText {
		return "", api.ErrFieldForm
	}
	out := make([]byte, 0, 1+mostBytes+len(s))
	out = appendNum(out, len(s))
	out = append(out, s...)
	return string(out), api.OK
}

// GetNum reads the number that begins at a place of s, and tells where it ends.
func GetNum(s string, at int) (int, int, api.Errno) {
	x, to, err := readNum(s, at)
	return x, to, errno(err)
}

// GetText reads the text that begins at a place of s, and tells where it ends.
func GetText(s string, at int) (string, int, api.Errno) {
	text, to, err := readText(s, at)
	return text, to, errno(err)
}

// appendNum adds the bytes of x, which is from 0 to MaxNum.
func appendNum(out []byte, x int) []byte {
	n := (bits.Len(uint(x)) + 7) / 8
	out = append(out, byte(n))
	switch n {
	case 4:
		out = append(out, byte(x>>24))
		fallthrough
	case 3:
		out = append(out, byte(x>>16))
		fallthrough
	case 2:
		out = append(out, byte(x>>8))
		fallthrough
	case 1:
		out = append(out, byte(x))
	}
	return out
}

// readNum is GetNum with an error that tells the place.
func readNum(s string, at int) (int, int, error) {
	if at < 0 || at > len(s) {
		return 0, 0, fault.New("number", at, api.ErrFieldForm)
	}
	if at == len(s) {
		return 0, 0, fault.New("number", at, api.ErrFieldCut)
	}
	n := int(s[at])
	if n > mostBytes {
		return 0, 0, fault.New("number", at, api.ErrFieldForm)
	}
	from := at + 1
	if len(s)-from < n {
		return 0, 0, fault.New("number", at, api.ErrFieldCut)
	}
	to := from + n
	x := sum(s[from:to])
	if n > 0 && s[from] == 0 || x > api.MaxNum {
		return 0, 0, fault.New("number", at, api.ErrFieldForm)
	}
	return int(x), to, nil
}

// sum gives the value of at most four bytes, the highest first. Four bytes may
// be more than an int holds where an int has 32 bits, so it is unsigned.
func sum(s string) uint32 {
	x := uint32(0)
	end := len(s)
	switch end {
	case 4:
		x += uint32(s[end-4]) << 24
		fallthrough
	case 3:
		x += uint32(s[end-3]) << 16
		fallthrough
	case 2:
		x += uint32(s[end-2]) << 8
		fallthrough
	case 1:
		x += uint32(s[end-1])
	}
	return x
}

// readText is GetText with an error that tells the place.
func readText(s string, at int) (string, int, error) {
	n, from, err := readNum(s, at)
	if err != nil {
		return "", 0, fault.New("text", at, err)
	}
	if n > api.MaxText {
		return "", 0, fault.New("text", at, api.ErrFieldForm)
	}
	if len(s)-from < n {
		return "", 0, fault.New("text", at, api.ErrFieldCut)
	}
	to := from + n
	// A piece of s would share its memory.
	return strings.Clone(s[from:to]), to, nil
}

// errno gives the error's number, however deep it is wrapped.
func errno(err error) api.Errno {
	var e api.Errno
	if errors.As(err, &e) {
		return e
	}
	return api.OK
}
