package parts

import (
	"math"
	"slices"
	"testing"

	"bastion/api"
)

// some are the places 0, 2 and 3 of a row of five.
const some = Set(1<<0 | 1<<2 | 1<<3)

// most are the greatest numbers of the five.
var most = []int{api.MaxNum, 9, 7, 1, 9}

// P4.1, P5.1, P6.1, P7.1: the places of a set.
func TestHas(t *testing.T) {
	for place, want := range []bool{true, false, true, true, false, false} {
		if some.Has(place) != want {
			t.Errorf("Has(%d): %v", place, !want)
		}
		if Set(0).Has(place) {
			t.Errorf("Has(%d) of no places", place)
		}
	}
	for _, place := range []int{64, 65, math.MaxInt} {
		if some.Has(place) {
			t.Errorf("Has(%d)", place)
		}
	}
}

// P4.1, P5.1, P6.1, P7.1: numbers in their limits, and 0 where they aren't named.
func TestMay(t *testing.T) {
	for _, row := range [][]int{{0, 0, 0, 0, 0}, {api.MaxNum, 0, 7, 1, 0}, {1, 0, 2, 0, 0}} {
		if !some.May(row, most) {
			t.Errorf("May of %v: false", row)
		}
	}
	for _, row := range [][]int{
		{api.MaxNum + 1, 0, 0, 0, 0}, {0, 0, 8, 0, 0}, {0, 0, 0, 2, 0}, {math.MaxInt, 0, 0, 0, 0},
		{-1, 0, 0, 0, 0}, {0, 0, -1, 0, 0}, {0, 0, 0, math.MinInt, 0},
		{0, 1, 0, 0, 0}, {0, -1, 0, 0, 0}, {0, 0, 0, 0, 1}, {0, 0, 0, 0, -1}, {0, 0, 0, 0, 10},
	} {
		if some.May(row, most) {
			t.Errorf("May of %v: true", row)
		}
	}
}

// P4.1, P5.1, P6.1, P7.1: the bytes of a kind and its numbers, there and back.
func TestPut(t *testing.T) {
	for _, c := range []struct {
		set  Set
		kind int
		row  []int
		head string
		tail string
	}{
		{some, 0, []int{1, 0, 256, 0, 0}, "\x00", "\x01\x01\x02\x01\x00\x00"},
		{some, 3, []int{0, 0, 0, 1, 0}, "\x01\x03", "\x00\x00\x01\x01"},
		{some, 3, []int{api.MaxNum, 0, 7, 1, 0}, "\x01\x03", "\x04\x3f\xff\xff\xff\x01\x07\x01\x01"},
		{1 << 4, 1, []int{0, 0, 0, 0, 5}, "\x01\x01", "\x01\x05"},
		{0, 5, []int{0, 0, 0, 0, 0}, "\x01\x05", ""},
	} {
		if s := c.set.Put(c.kind, c.row); s != c.head+c.tail {
			t.Errorf("Put of %d, %v: %x, want %x", c.kind, c.row, s, c.head+c.tail)
		}
		s := c.head + c.tail + "\xff"
		row, to, e := c.set.Get(s, len(c.head), len(c.row))
		if !slices.Equal(row, c.row) || to != len(s)-1 || e != api.OK {
			t.Errorf("Get(%x): %v, %d, %d, want %v", s, row, to, e, c.row)
		}
	}
}

// P4.1, P5.1, P6.1, P7.1: numbers that are cut, or none; beside the error all is zero.
func TestGetErrors(t *testing.T) {
	for _, c := range []struct {
		s    string
		at   int
		want api.Errno
	}{
		{"", 0, api.ErrFieldCut},
		{"\x00\x00", 0, api.ErrFieldCut},
		{"\x00\x00\x01", 0, api.ErrFieldCut},
		{"\x00\x00\x00", 1, api.ErrFieldCut},
		{"\x01\x01\x05\x00", 0, api.ErrFieldForm},
		{"\x01\x01\x00\x01\x00", 0, api.ErrFieldForm},
		{"\x00\x00\x00", 4, api.ErrFieldForm},
		{"\x00\x00\x00", -1, api.ErrFieldForm},
	} {
		row, to, e := some.Get(c.s, c.at, 5)
		if row != nil || to != 0 || e != c.want {
			t.Errorf("Get(%x, %d): %v, %d, %d, want %d", c.s, c.at, row, to, e, c.want)
		}
	}
}
