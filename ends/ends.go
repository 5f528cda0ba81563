// Package ends is layer 1: see shared/doc/01-ends.md.
package ends

import "refectory/api"

// Put tells a number as its bytes.
func Put(n uint64, size int) ([]byte, api.Errno) {
	if !sized(n, size) {
		return nil, api.ErrArg
	}
	b := make([]byte, size)
	for i := range b {
		b[i] = byte(n >> (8 * i))
	}
	return b, api.OK
}

// Get tells the number whose bytes stand at a place.
func Get(b []byte, at, size int) (uint64, api.Errno) {
	if !sized(0, size) {
		return 0, api.ErrArg
	}
	p, e := view(b, at, size)
	if e != api.OK {
		return 0, e
	}
	n := uint64(0)
	for i, x := range p {
		n |= uint64(x) << (8 * i)
	}
	return n, api.OK
}

// Part tells the n bytes that stand at a place.
func Part(b []byte, at, n int) ([]byte, api.Errno) {
	p, e := view(b, at, n)
	if e != api.OK {
		return nil, e
	}
	// A copy: what is answered shares nothing with what was handed in.
	own := make([]byte, n)
	copy(own, p)
	return own, api.OK
}

// Pad tells b with its padding to a multiple of 8.
func Pad(b []byte) []byte {
	missing := -len(b) & 7
	// Made anew, and not appended to b: the room behind b's end stays as it is.
	p := make([]byte, len(b)+missing)
	copy(p, b)
	return p
}

// Zero tells whether n bytes stand at a place, all of them 0.
func Zero(b []byte, at, n int) bool {
	p, e := view(b, at, n)
	if e != api.OK {
		return false
	}
	for _, x := range p {
		if x != 0 {
			return false
		}
	}
	return true
}

// sized tells whether a number is one of a size, and that a size.
func sized(n uint64, size int) bool {
	switch size {
	case 1, 2, 4, 8:
		// Moved by 64, nothing is left: so each number is one of the size 8.
		return n>>(8*size) == 0
	}
	return false
}

// view is b's own n bytes at a place, and no room behind them: who has it can't reach what follows in b.
func view(b []byte, at, n int) ([]byte, api.Errno) {
	if at < 0 || at > len(b) || n < 0 {
		return nil, api.ErrArg
	}
	// Less and not more: at + n could leave what an int holds.
	if n > len(b)-at {
		return nil, api.ErrShort
	}
	return b[at : at+n : at+n], api.OK
}
