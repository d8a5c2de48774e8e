package file

import (
	"wireglass/api"
	"wireglass/capt"
)

// The kinds of splitting.
const (
	byCount = 0
	byBytes = 1
	byTimes = 2
)

// Range returns the capture with the packets that came at from or later, and before to.
func Range(c api.Capture, from, to int) (api.Capture, api.Errno) {
	if e := capt.Validate(c); e != api.OK {
		return api.Capture{}, e
	}
	var packets []api.Packet
	for _, p := range c.Packets {
		if from <= p.Time && p.Time < to {
			packets = append(packets, p)
		}
	}
	return with(c, packets), api.OK
}

// Pick returns the capture with the packets that have the numbers of a set.
func Pick(c api.Capture, l []int) (api.Capture, api.Errno) {
	if e := capt.Validate(c); e != api.OK {
		return api.Capture{}, e
	}
	for i := 1; i < len(l); i++ {
		if l[i-1] >= l[i] {
			return api.Capture{}, api.ErrArg
		}
	}
	var packets []api.Packet
	for _, n := range l {
		if n < 0 || n >= len(c.Packets) {
			return api.Capture{}, api.ErrNone
		}
		packets = append(packets, c.Packets[n])
	}
	return with(c, packets), api.OK
}

// Split cuts a capture into some that are alike in all but their packets: by their count, their bytes, or their times.
func Split(c api.Capture, kind, n int) ([]api.Capture, api.Errno) {
	if e := capt.Validate(c); e != api.OK {
		return nil, e
	}
	if kind < byCount || kind > byTimes || n < 1 {
		return nil, api.ErrArg
	}
	var out []api.Capture
	first := 0
	for i := 1; i < len(c.Packets); i++ {
		if part := c.Packets[first:i]; isFull(part, c.Packets[i], kind, n) {
			out = append(out, with(c, part))
			first = i
		}
	}
	return append(out, with(c, c.Packets[first:])), api.OK
}

// isFull tells whether the next packet does not belong to a part any more, which has at least one.
func isFull(part []api.Packet, next api.Packet, kind, n int) bool {
	switch kind {
	case byCount:
		return len(part) == n
	case byBytes:
		sum := len(next.Data)
		for _, p := range part {
			sum += len(p.Data)
		}
		return sum > n
	default:
		return part[len(part)-1].Time/n != next.Time/n
	}
}
