// Package bits reads and writes numbers in bytes, and makes checks. It is described in chapter doc/01-bits.md of the document.
package bits

import (
	"slices"

	"wireglass/api"
)

// Get returns the number of n bits from the bit at on; with low, its lowest byte comes first.
func Get(b []byte, at, n int, low bool) (int, api.Errno) {
	if e := span(b, at, n, low); e != api.OK {
		return 0, e
	}
	end := at + n
	v := 0
	for _, x := range b[at/8 : (end+7)/8] { // at most 7 bytes, so nothing is lost at the top
		v = v<<8 | int(x)
	}
	behind := (8 - end%8) % 8
	v = v >> behind & (1<<n - 1)
	if low {
		v = turn(v, n)
	}
	return v, api.OK
}

// Put returns the bytes with the number v in the n bits from the bit at on.
func Put(b []byte, at, n, v int, low bool) ([]byte, api.Errno) {
	if e := span(b, at, n, low); e != api.OK {
		return nil, e
	}
	if !fits(v, n) {
		return nil, api.ErrFit
	}
	if low {
		v = turn(v, n)
	}
	out := slices.Clone(b)
	for i := at + n - 1; i >= at; i-- {
		bit := byte(128) >> (i % 8)
		out[i/8] &^= bit
		if v&1 == 1 {
			out[i/8] |= bit
		}
		v >>= 1
	}
	return out, api.OK
}

// Signed returns the number with a sign whose n lowest bits are those of v.
func Signed(v, n int) (int, api.Errno) {
	if n < 1 || n > api.MaxBits {
		return 0, api.ErrArg
	}
	if !fits(v, n) {
		return 0, api.ErrFit
	}
	if v >= 1<<(n-1) {
		v -= 1 << n
	}
	return v, api.OK
}

// Bytes returns n bytes from the bit at on.
func Bytes(b []byte, at, n int) ([]byte, api.Errno) {
	if at < 0 || n < 0 {
		return nil, api.ErrArg
	}
	if n > len(b) || at > 8*(len(b)-n) {
		return nil, api.ErrNone
	}
	first, shift := at/8, at%8
	out := make([]byte, n)
	copy(out, b[first:])
	if shift == 0 {
		return out, api.OK
	}
	for i := range out {
		out[i] = b[first+i]<<shift | b[first+i+1]>>(8-shift)
	}
	return out, api.OK
}

// span tells whether a number of n bits can be asked for at a place, and is there.
func span(b []byte, at, n int, low bool) api.Errno {
	if at < 0 || n < 0 || n > api.MaxBits {
		return api.ErrArg
	}
	if low && (at%8 != 0 || n%8 != 0) {
		return api.ErrArg
	}
	if at > 8*len(b)-n { // not at+n: at may be any number
		return api.ErrNone
	}
	return api.OK
}

// fits tells whether v is a number of n bits.
func fits(v, n int) bool {
	return v >= 0 && v < 1<<n
}

// turn turns the bytes of a number of n bits round.
func turn(v, n int) int {
	out := 0
	for range n / 8 {
		out = out<<8 | v&255
		v >>= 8
	}
	return out
}
