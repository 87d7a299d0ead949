// Package sector makes what the layers share that keep sectors of which each tells
// whether it is whole: a body, the name of a hash that is of it, then zeros.
package sector

import (
	"bastion/api"
	"bastion/book"
	"bastion/craft"
	"bastion/field"
)

// Put gives the sector of a body, and names its hash. A word stands ahead of the body
// in what the hash is of, so that one layer's sector is never another's.
func Put(b *book.Book, word, body string) (string, int, bool) {
	name, e := craft.Hash(b, word+body)
	if e != api.OK {
		return "", 0, false
	}
	s, is := fill(body, name)
	if !is {
		return "", 0, false
	}
	return s, name, true
}

// Is tells whether s is what Put gives of a body whose hash has that name, and names
// nothing.
func Is(b *book.Book, s, word, body string, name int) bool {
	own, is := fill(body, name)
	return is && own == s && craft.IsHash(b, word+body, name)
}

// fill writes every sector, if there is room for the body and the name.
func fill(body string, name int) (string, bool) {
	num, e := field.Num(name)
	if e != api.OK || len(body)+len(num) > api.SectorSize {
		return "", false
	}
	var out [api.SectorSize]byte
	copy(out[:], body)
	copy(out[len(body):], num)
	return string(out[:]), true
}
