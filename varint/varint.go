// Package varint is layer 2: numbers in as few bytes as they need. See shared/doc/02-varint.md.
package varint

import "periscope/api"

const (
	groupBits = 7
	more      = 1 << groupBits
	mostBytes = 10
	// Nine groups hold 63 bits: one is left for the tenth byte.
	mostTenth = 1
)

// Put is n's form.
func Put(n uint64) string {
	form := make([]byte, 0, mostBytes)
	for n >= more {
		form = append(form, byte(n)|more)
		n >>= groupBits
	}
	return string(append(form, byte(n)))
}

// Get is the number whose form stands at a place, and the place behind it.
func Get(s string, at int) (uint64, int, api.Errno) {
	if at < 0 {
		return 0, 0, api.ErrArg
	}
	if at > len(s) {
		return 0, 0, api.ErrShort
	}
	n, size, errno := first(s[at:])
	if errno != api.OK {
		return 0, 0, errno
	}
	return n, at + size, api.OK
}

// What a form comes to hangs on its own bytes alone, so first is given no place.
func first(s string) (uint64, int, api.Errno) {
	var n uint64
	size, errno := 0, api.ErrShort
groups:
	for i := range min(len(s), mostBytes) {
		c := s[i]
		switch {
		case i == mostBytes-1 && c > mostTenth, i > 0 && c == 0:
			errno = api.ErrForm
			break groups
		case c < more:
			n |= uint64(c) << (groupBits * i)
			size, errno = i+1, api.OK
			break groups
		}
		n |= uint64(c-more) << (groupBits * i)
	}
	return n, size, errno
}

// Text is s behind the form of its length.
func Text(s string) string {
	return Put(uint64(len(s))) + s
}

// Take is the text that stands at a place behind its length, and the place behind it.
func Take(s string, at, most int) (string, int, api.Errno) {
	n, from, errno := Get(s, at)
	if errno != api.OK {
		return "", 0, errno
	}
	if most < 0 || n > uint64(most) {
		return "", 0, api.ErrLong
	}
	if n > uint64(len(s)-from) {
		return "", 0, api.ErrShort
	}
	to := from + int(n)
	return s[from:to], to, api.OK
}
