package bits

import (
	"iter"

	"wireglass/api"
)

const (
	maxSeven = 7       // bytes of a number by sevens
	tooGreat = 1 << 48 // the first number that is too great
	perByte  = 7       // bits of the number in a byte
	partMask = 127     // where a byte has them
	moreBit  = 128     // what is added to a byte if more follow
)

// Seven returns a number by sevens.
func Seven(n int) ([]byte, api.Errno) {
	if n < 0 || n >= tooGreat {
		return nil, api.ErrArg
	}
	var out []byte
	for part, more := range partsOf(n) {
		if more {
			part |= moreBit
		}
		out = append(out, byte(part))
	}
	return out, api.OK
}

// Unseven returns the number by sevens at the begin of bytes, and how many bytes it has.
func Unseven(b []byte) (int, int, api.Errno) {
	v, size, ended := 0, 0, false
	for part, more := range partsIn(b[:min(len(b), maxSeven)]) {
		v |= part << (perByte * size)
		size++
		ended = !more
	}
	if !ended {
		return 0, 0, api.ErrBroken
	}
	// Each number is written in one way: other bytes need fewer, or are too great for Seven.
	if right, e := Seven(v); e != api.OK || len(right) != size {
		return 0, 0, api.ErrBroken
	}
	return v, size, api.OK
}

// partsOf goes through a number, seven bits a time, the lowest ones first, and tells of each whether more follow.
func partsOf(n int) iter.Seq2[int, bool] {
	return func(yield func(int, bool) bool) {
		more := true
		for left := n; more; left >>= perByte {
			more = left > partMask
			if !yield(left&partMask, more) {
				return
			}
		}
	}
}

// partsIn goes through the bytes of a number by sevens likewise.
func partsIn(b []byte) iter.Seq2[int, bool] {
	return func(yield func(int, bool) bool) {
		for _, x := range b {
			more := x&moreBit != 0
			if !yield(int(x&partMask), more) || !more {
				return
			}
		}
	}
}
