// Package ends is layer 1: numbers as bytes, the lowest first.
package ends

import "bulwark/api"

// isSize tells whether numbers have that size.
func isSize(size int) bool {
	return size == 1 || size == 2 || size == 4 || size == 8
}

// fits tells whether n is below 256 to the power of the size.
func fits(n uint64, size int) bool {
	return size == 8 || n>>(8*uint(size)) == 0
}

// cut is the n bytes from at on, as a piece of b that cannot grow into what stands behind it.
func cut(b []byte, at, n int) ([]byte, api.Errno) {
	if at < 0 || at > len(b) || n < 0 {
		return nil, api.ErrArg
	}
	if n > len(b)-at {
		return nil, api.ErrShort
	}
	return b[at : at+n : at+n], api.OK
}

// Put answers the bytes of a number of that size.
func Put(n uint64, size int) ([]byte, api.Errno) {
	if !isSize(size) || !fits(n, size) {
		return nil, api.ErrArg
	}
	b := make([]byte, size)
	for i := range b {
		b[i] = byte(n >> (8 * uint(i)))
	}
	return b, api.OK
}

// Get answers the number of that size that stands at at.
func Get(b []byte, at, size int) (uint64, api.Errno) {
	if !isSize(size) {
		return 0, api.ErrArg
	}
	piece, e := cut(b, at, size)
	if e != api.OK {
		return 0, e
	}
	var n uint64
	for i, x := range piece {
		n |= uint64(x) << (8 * uint(i))
	}
	return n, api.OK
}

// Part answers n bytes from at on.
func Part(b []byte, at, n int) ([]byte, api.Errno) {
	piece, e := cut(b, at, n)
	if e != api.OK {
		return nil, e
	}
	return append([]byte{}, piece...), api.OK
}

// Pad answers b with as few bytes 0 behind it as make a multiple of 8.
func Pad(b []byte) []byte {
	padded := make([]byte, len(b)+(8-len(b)%8)%8)
	copy(padded, b)
	return padded
}

// Zero tells whether n bytes stand at at, all of them 0.
func Zero(b []byte, at, n int) bool {
	piece, e := cut(b, at, n)
	if e != api.OK {
		return false
	}
	for _, x := range piece {
		if x != 0 {
			return false
		}
	}
	return true
}
