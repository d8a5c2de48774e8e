package file

import (
	"math/bits"

	"wireglass/api"
	"wireglass/capt"
)

// Shift makes all times later.
func Shift(c api.Capture, by int) (api.Capture, api.Errno) {
	if e := capt.Validate(c); e != api.OK {
		return api.Capture{}, e
	}
	return retime(c, func(t int) (int, bool) {
		return later(t, by)
	})
}

// Drift mends the times of a clock that showed at1 at the time true1 and at2 at the time true2.
func Drift(c api.Capture, at1, true1, at2, true2 int) (api.Capture, api.Errno) {
	if e := capt.Validate(c); e != api.OK {
		return api.Capture{}, e
	}
	if at1 == at2 || !isTime(at1) || !isTime(true1) || !isTime(at2) || !isTime(true2) {
		return api.Capture{}, api.ErrArg
	}
	return retime(c, func(t int) (int, bool) {
		by, ok := scale(t-at1, true2-true1, at2-at1)
		if !ok {
			return 0, false
		}
		return later(true1, by)
	})
}

// retime returns a capture whose times are changed, if all of them can be.
func retime(c api.Capture, change func(t int) (int, bool)) (api.Capture, api.Errno) {
	out := capt.Copy(c)
	for i, p := range c.Packets {
		t, ok := change(p.Time)
		if !ok {
			return api.Capture{}, api.ErrArg
		}
		out.Packets[i].Time = t
	}
	return out, api.OK
}

// later returns the time that is later than another one by any number, and whether there is such a time.
func later(t, by int) (int, bool) {
	if by < -t || by > api.MaxTime-t { // not t+by: by may be any number
		return 0, false
	}
	return t + by, true
}

// scale returns a * b / c rounded down, and false if that is too far from 0 to lead from one time to another. The sizes of a, b and c are at most MaxTime, and c is not 0.
func scale(a, b, c int) (int, bool) {
	high, low := bits.Mul64(size(a), size(b)) // the product can have 100 bits
	if high >= size(c) {
		return 0, false
	}
	n, rest := bits.Div64(high, low, size(c))
	if n > api.MaxTime {
		return 0, false
	}
	if negative := (a < 0) != (b < 0) != (c < 0); !negative {
		return int(n), true
	}
	if rest > 0 {
		n++
	}
	return -int(n), true
}

// size returns how far a number, which is not the least one, is from 0.
func size(n int) uint64 {
	return uint64(max(n, -n))
}

func isTime(t int) bool {
	return 0 <= t && t <= api.MaxTime
}
