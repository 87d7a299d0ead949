// Package parts holds what the layers share that write things of several kinds as
// bytes: a thing's kind, then those of its numbers that its kind names. All kinds
// of a thing agree on one row of places, each with some of them.
package parts

import (
	"bastion/api"
	"bastion/field"
)

// Set is a set of a row's places, a bit each.
type Set uint

// Has tells whether a place is in the set.
func (set Set) Has(place int) bool {
	return set>>place&1 == 1
}

// May tells whether each number of a row that is in the set is from 0 to the
// greatest of its place, and each that is not is 0.
func (set Set) May(row, most []int) bool {
	for place, x := range row {
		if x < 0 || x > most[place] {
			return false
		}
		if x != 0 && !set.Has(place) {
			return false
		}
	}
	return true
}

// Put gives the bytes of a kind, then of a row's numbers that are in the set.
// Layer 1 must take them all: whoever calls has asked May.
func (set Set) Put(kind int, row []int) string {
	out, _ := field.Num(kind)
	for place, x := range row {
		if set.Has(place) {
			num, _ := field.Num(x)
			out += num
		}
	}
	return out
}

// Get reads the numbers that are in the set into a row of n places, all others 0,
// and tells where they end in s.
func (set Set) Get(s string, at, n int) ([]int, int, api.Errno) {
	row := make([]int, n)
	e := api.OK
	for place := range row {
		if !set.Has(place) {
			continue
		}
		row[place], at, e = field.GetNum(s, at)
		if e != api.OK {
			return nil, 0, e
		}
	}
	return row, at, api.OK
}
