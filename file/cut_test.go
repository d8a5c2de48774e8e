package file_test

import (
	"math"
	"slices"
	"testing"

	"wireglass/api"
	"wireglass/capt"
)

// picked returns a capture with some of its packets, by their numbers.
func picked(c api.Capture, l ...int) api.Capture {
	var packets []api.Packet
	for _, n := range l {
		packets = append(packets, c.Packets[n])
	}
	c.Packets = packets
	return c
}

func TestRange(t *testing.T) {
	c := timed(5, 3, 9, 5, 0, api.MaxTime)
	for _, r := range []struct {
		from, to int
		want     []int
	}{
		{3, 9, []int{0, 1, 3}},
		{3, 10, []int{0, 1, 2, 3}},
		{4, 9, []int{0, 3}},
		{5, 6, []int{0, 3}},
		{5, 5, nil}, // from is not below to
		{6, 5, nil},
		{9, 3, nil},
		{6, 9, nil},
		{0, 1, []int{4}},
		{-1, 0, nil},
		{0, api.MaxTime, []int{0, 1, 2, 3, 4}},
		{0, api.MaxTime + 1, []int{0, 1, 2, 3, 4, 5}},
		{math.MinInt, math.MaxInt, []int{0, 1, 2, 3, 4, 5}},
		{math.MaxInt, math.MinInt, nil},
	} {
		out, e := rangeOf(c, r.from, r.to)
		gives(t, "Range", out, e, picked(c, r.want...))
	}
	out, e := rangeOf(rich(), 20, 31)
	gives(t, "Range of all else", out, e, picked(rich(), 0, 2, 3))
	out, e = rangeOf(timed(), 0, 9)
	gives(t, "Range without packets", out, e, timed())
}

func TestPick(t *testing.T) {
	for _, l := range [][]int{nil, {}, {0}, {3}, {0, 3}, {1, 2}, {0, 1, 2, 3}} {
		out, e := pickOf(rich(), l)
		gives(t, "Pick", out, e, picked(rich(), l...))
	}
	out, e := pickOf(timed(), nil)
	gives(t, "Pick without packets", out, e, timed())
	out, e = pickOf(many(api.MaxPackets), []int{api.MaxPackets - 1})
	gives(t, "Pick of the last packet", out, e, picked(many(api.MaxPackets), api.MaxPackets-1))
}

func TestPickErrors(t *testing.T) {
	for _, c := range []struct {
		l    []int
		want api.Errno
	}{
		{[]int{0, 0}, api.ErrArg},
		{[]int{1, 0}, api.ErrArg},
		{[]int{0, 1, 2, 2}, api.ErrArg},
		{[]int{0, 2, 1}, api.ErrArg},
		{[]int{math.MaxInt, math.MinInt}, api.ErrArg},
		{[]int{4}, api.ErrNone}, // one beyond the last packet
		{[]int{0, 4}, api.ErrNone},
		{[]int{0, 1, 2, 3, 4}, api.ErrNone},
		{[]int{math.MaxInt}, api.ErrNone},
		{[]int{4, 3}, api.ErrArg}, // before ErrNone
		{[]int{0, 4, 4}, api.ErrArg},
	} {
		out, e := pickOf(rich(), c.l)
		refuses(t, "Pick", out, e, c.want)
	}
	out, e := pickOf(timed(), []int{0})
	refuses(t, "Pick without packets", out, e, api.ErrNone)
	for _, n := range []int{-1, math.MinInt} {
		if out, e := pickOf(rich(), []int{n, 1}); e == api.OK || len(out.Packets) > 0 {
			t.Errorf("Pick of the number %d: %v, %d", n, out, e)
		}
	}
}

func TestSplitGivenCounts(t *testing.T) {
	for _, s := range []struct {
		name    string
		c       api.Capture
		kind, n int
		want    []int
	}{
		{"five by two", many(5), 0, 2, []int{2, 2, 1}},
		{"four by two", many(4), 0, 2, []int{2, 2}},
		{"one by one", many(3), 0, 1, []int{1, 1, 1}},
		{"as many as there are", many(3), 0, 3, []int{3}},
		{"one more than there are", many(3), 0, 4, []int{3}},
		{"any more", many(3), 0, math.MaxInt, []int{3}},
		{"no packets", many(0), 0, 1, []int{0}},
		{"all packets", many(api.MaxPackets), 0, 1, slices.Repeat([]int{1}, api.MaxPackets)},

		{"bytes up to the limit", sized(2, 3, 5, 4, 2), 1, 5, []int{2, 1, 1, 1}},
		{"bytes one above", sized(2, 4, 5, 1, 5), 1, 5, []int{1, 1, 1, 1, 1}},
		{"one packet alone has more", sized(1, 6, 1, 1), 1, 5, []int{1, 1, 2}},
		{"one packet alone has more, no bytes around", sized(0, 6, 0, 0, 5, 0), 1, 5, []int{1, 1, 4}},
		{"only such packets", sized(400, 400), 1, 1, []int{1, 1}},
		{"byte by byte", sized(1, 1, 0, 1, 2), 1, 1, []int{1, 2, 1, 1}},
		{"no bytes", sized(0, 0, 0), 1, 1, []int{3}},
		{"all bytes", sized(400, 400, 400), 1, 1200, []int{3}},
		{"all bytes but one", sized(400, 400, 400), 1, 1199, []int{2, 1}},
		{"any bytes", sized(400, 400), 1, math.MaxInt, []int{2}},
		{"no packets", sized(), 1, 1, []int{0}},

		{"times", timed(0, 4, 9, 10, 19, 20, 41), 2, 10, []int{3, 2, 1, 1}},
		{"times that go back", timed(10, 9, 11, 12, 3), 2, 10, []int{1, 1, 2, 1}},
		{"times that go back within one", timed(19, 10, 15), 2, 10, []int{3}},
		{"each time", timed(1, 1, 2, 3, 3, 3, 2), 2, 1, []int{2, 1, 3, 1}},
		{"the last time", timed(0, api.MaxTime-1, api.MaxTime), 2, api.MaxTime, []int{2, 1}},
		{"any time", timed(0, api.MaxTime), 2, math.MaxInt, []int{2}},
		{"no packets", timed(), 2, 1, []int{0}},
	} {
		out, e := splitOf(s.c, s.kind, s.n)
		var counts []int
		at := 0
		for _, part := range out {
			counts = append(counts, len(part.Packets))
			numbers := make([]int, len(part.Packets))
			for i := range numbers {
				numbers[i] = at
				at++
			}
			gives(t, s.name, part, e, picked(s.c, numbers...))
		}
		if e != api.OK || !slices.Equal(counts, s.want) {
			t.Errorf("Split, %s: %v, %d; not %v", s.name, counts, e, s.want)
		}
	}
}

func TestSplitErrors(t *testing.T) {
	for _, c := range [][2]int{
		{-1, 1}, {3, 1}, {math.MinInt, 1}, {math.MaxInt, 1}, {0, 0}, {1, 0}, {2, 0}, {0, -1}, {1, -1}, {2, -1}, {2, math.MinInt}, {3, 0},
	} {
		for _, from := range []api.Capture{rich(), timed()} {
			if out, e := splitOf(from, c[0], c[1]); e != api.ErrArg || len(out) != 0 {
				t.Errorf("Split %v: %v, %d", c, out, e)
			}
		}
	}
}

func TestJoinOfSplitIsTheCapture(t *testing.T) {
	r := numbers(3)
	for range 3000 {
		c := anyCapture(r)
		kind, n := r.IntN(3), 1+r.IntN(8)
		l, e := splitOf(c, kind, n)
		if e != api.OK || len(l) == 0 {
			t.Fatalf("Split: %v, %d", l, e)
		}
		out, e := joinOf(l)
		gives(t, "Join of Split", out, e, c)
		for i, part := range l {
			if e := capt.Validate(part); e != api.OK || (len(part.Packets) == 0) != (len(c.Packets) == 0) {
				t.Fatalf("Split by the kind %d made a part of %d packets: %d", kind, len(part.Packets), e)
			}
			if i > 0 && !cutRightly(l[i-1].Packets, part.Packets[0], kind, n) {
				t.Fatalf("Split by the kind %d, %d: %v and %v", kind, n, l[i-1], part)
			}
		}
	}
}

// cutRightly tells whether a part ends where the next one begins, and not earlier.
func cutRightly(part []api.Packet, next api.Packet, kind, n int) bool {
	sum := 0
	for _, p := range part {
		sum += len(p.Data)
	}
	switch kind {
	case 0:
		return len(part) == n
	case 1:
		return (sum <= n || len(part) == 1) && sum+len(next.Data) > n
	}
	for _, p := range part {
		if p.Time/n != part[0].Time/n {
			return false
		}
	}
	return part[0].Time/n != next.Time/n
}
