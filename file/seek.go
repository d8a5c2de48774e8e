package file

import (
	"bytes"
	"cmp"
	"slices"

	"wireglass/api"
	"wireglass/capt"
)

// Doubles returns the numbers of the packets that are there already among the window packets before, and came at most within microseconds before or behind.
func Doubles(c api.Capture, window, within int) ([]int, api.Errno) {
	if e := capt.Validate(c); e != api.OK {
		return nil, e
	}
	if window < 1 || window > api.MaxPackets || !isTime(within) {
		return nil, api.ErrArg
	}
	var out []int
	for i, p := range c.Packets {
		before := c.Packets[max(0, i-window):i]
		if slices.ContainsFunc(before, func(q api.Packet) bool { return isDouble(p, q, within) }) {
			out = append(out, i)
		}
	}
	return out, api.OK
}

// Index returns the times and numbers of the packets in ascending order.
func Index(c api.Capture) ([][2]int, api.Errno) {
	if e := capt.Validate(c); e != api.OK {
		return nil, e
	}
	out := make([][2]int, len(c.Packets))
	for i, p := range c.Packets {
		out[i] = [2]int{p.Time, i}
	}
	slices.SortFunc(out, compare)
	return out, api.OK
}

// Seek returns the number of the first packet of an index whose time is not below a time, and whether there is one.
func Seek(x [][2]int, time int) (int, bool, api.Errno) {
	for i := 1; i < len(x); i++ {
		if compare(x[i-1], x[i]) >= 0 {
			return 0, false, api.ErrArg
		}
	}
	for _, at := range x {
		if at[0] >= time {
			return at[1], true, api.OK
		}
	}
	return 0, false, api.OK
}

// isDouble tells whether two packets are the same one that came twice.
func isDouble(p, q api.Packet, within int) bool {
	apart := p.Time - q.Time
	return -within <= apart && apart <= within && p.Real == q.Real && bytes.Equal(p.Data, q.Data)
}

// compare compares two elements of an index.
func compare(a, b [2]int) int {
	return cmp.Or(cmp.Compare(a[0], b[0]), cmp.Compare(a[1], b[1]))
}
