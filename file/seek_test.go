package file_test

import (
	"math"
	"slices"
	"testing"

	"wireglass/api"
	"wireglass/file"
)

func TestDoublesGivenNumbers(t *testing.T) {
	same := []byte{1, 2}
	p := func(time int, data ...byte) api.Packet {
		return api.Packet{Time: time, Real: 9, Data: data}
	}
	list := func(l ...api.Packet) api.Capture {
		return api.Capture{Faces: make([]api.Face, 2), Packets: l}
	}
	for _, c := range []struct {
		name           string
		c              api.Capture
		window, within int
		want           []int
	}{
		{"next to each other", list(p(5, same...), p(5, same...)), 1, 0, []int{1}},
		{"just within the window", list(p(5, same...), p(5), p(5, 1), p(5, same...)), 3, 0, []int{3}},
		{"just beyond the window", list(p(5, same...), p(5), p(5, 1), p(5, same...)), 2, 0, nil},
		{"just within the time, behind", list(p(5, same...), p(8, same...)), 1, 3, []int{1}},
		{"just beyond the time, behind", list(p(5, same...), p(9, same...)), 1, 3, nil},
		{"just within the time, before", list(p(8, same...), p(5, same...)), 1, 3, []int{1}},
		{"just beyond the time, before", list(p(9, same...), p(5, same...)), 1, 3, nil},
		{"all times", list(p(api.MaxTime, same...), p(0, same...)), 1, api.MaxTime, []int{1}},
		{"all times but one", list(p(api.MaxTime, same...), p(0, same...)), 1, api.MaxTime - 1, nil},
		{"three of them", list(p(5, same...), p(6, same...), p(7, same...)), 1, 1, []int{1, 2}},
		{"three, the window leads further", list(p(5, same...), p(9, same...), p(6, same...)), 2, 1, []int{2}},
		{"of a double", list(p(5, same...), p(6, same...), p(7, same...)), 2, 1, []int{1, 2}},
		{"no bytes", list(p(5), p(5)), 1, 0, []int{1}},
		{"other bytes", list(p(5, 1, 2), p(5, 1, 3)), 9, 9, nil},
		{"more bytes", list(p(5, 1, 2), p(5, 1, 2, 0), p(5, 1)), 9, 9, nil},
		{"another length", list(p(5, same...), api.Packet{Time: 5, Real: 8, Data: same}), 9, 9, nil},
		{"another face and note", list(p(5, same...), api.Packet{Time: 5, Real: 9, Data: same, Face: 1, Note: "x"}), 9, 9, []int{1}},
		{"one", list(p(5)), 100, api.MaxTime, nil},
		{"none", list(), 100, api.MaxTime, nil},
		{"the greatest window", list(slices.Concat([]api.Packet{p(0, 9)}, many(98).Packets, []api.Packet{p(0, 9)})...), 100, 0, []int{99}},
		{"one before the greatest", list(slices.Concat([]api.Packet{p(0, 200)}, many(98).Packets, []api.Packet{p(0, 200)})...), 98, 0, nil},
	} {
		if out, e := doublesOf(c.c, c.window, c.within); e != api.OK || !slices.Equal(out, c.want) {
			t.Errorf("Doubles, %s: %v, %d; not %v", c.name, out, e, c.want)
		}
	}
}

func TestDoublesErrors(t *testing.T) {
	for _, c := range [][2]int{
		{0, 0}, {-1, 0}, {api.MaxPackets + 1, 0}, {math.MinInt, 0}, {math.MaxInt, 0},
		{1, -1}, {1, api.MaxTime + 1}, {1, math.MinInt}, {1, math.MaxInt},
	} {
		if out, e := doublesOf(many(3), c[0], c[1]); e != api.ErrArg || len(out) != 0 {
			t.Errorf("Doubles %v: %v, %d", c, out, e)
		}
	}
	for _, c := range [][2]int{{1, 0}, {api.MaxPackets, 0}, {1, api.MaxTime}} {
		if _, e := doublesOf(many(3), c[0], c[1]); e != api.OK {
			t.Errorf("Doubles %v: %d", c, e)
		}
	}
}

func TestIndex(t *testing.T) {
	for _, c := range []struct {
		times []int
		want  [][2]int
	}{
		{nil, nil},
		{[]int{7}, [][2]int{{7, 0}}},
		{[]int{5, 3, 9, 3, 5, 3}, [][2]int{{3, 1}, {3, 3}, {3, 5}, {5, 0}, {5, 4}, {9, 2}}},
		{[]int{api.MaxTime, 0}, [][2]int{{0, 1}, {api.MaxTime, 0}}},
	} {
		if out, e := indexOf(timed(c.times...)); e != api.OK || !slices.Equal(out, c.want) {
			t.Errorf("Index of %v: %v, %d", c.times, out, e)
		}
	}
	out, e := indexOf(many(api.MaxPackets))
	if e != api.OK || len(out) != api.MaxPackets {
		t.Fatalf("Index of all packets: %v, %d", out, e)
	}
	for i, x := range out {
		if x != [2]int{0, i} {
			t.Errorf("Index of equal times has %v at %d", x, i)
		}
	}
}

func TestSeek(t *testing.T) {
	x := [][2]int{{3, 1}, {3, 3}, {5, 0}, {5, 4}, {9, 2}}
	was := slices.Clone(x)
	for _, c := range []struct {
		time, want int
		found      bool
	}{
		{math.MinInt, 1, true}, {-1, 1, true}, {0, 1, true}, {3, 1, true}, {4, 0, true}, {5, 0, true}, {6, 2, true}, {9, 2, true}, {10, 0, false}, {math.MaxInt, 0, false},
	} {
		if n, found, e := file.Seek(x, c.time); n != c.want || found != c.found || e != api.OK {
			t.Errorf("Seek of %d: %d, %v, %d", c.time, n, found, e)
		}
	}
	if !slices.Equal(x, was) {
		t.Errorf("Seek changed its argument")
	}
	if n, found, e := file.Seek(nil, 0); n != 0 || found || e != api.OK {
		t.Errorf("Seek in nothing: %d, %v, %d", n, found, e)
	}
	if n, found, e := file.Seek([][2]int{{math.MinInt, -7}, {math.MaxInt, math.MaxInt}}, 0); n != math.MaxInt || !found || e != api.OK {
		t.Errorf("Seek of any numbers: %d, %v, %d", n, found, e)
	}
}

func TestSeekErrors(t *testing.T) {
	for _, x := range [][][2]int{
		{{3, 1}, {3, 1}},
		{{3, 2}, {3, 1}},
		{{4, 1}, {3, 2}},
		{{1, 0}, {2, 1}, {3, 2}, {3, 2}},
		{{1, 0}, {3, 1}, {2, 2}},
		{{2, 0}, {1, 1}, {3, 2}},
	} {
		for _, time := range []int{math.MinInt, 0, 1, 3, math.MaxInt} {
			if n, found, e := file.Seek(x, time); n != 0 || found || e != api.ErrArg {
				t.Errorf("Seek of %d in %v: %d, %v, %d", time, x, n, found, e)
			}
		}
	}
}

func TestSeekInAnyIndex(t *testing.T) {
	r := numbers(4)
	for range 2000 {
		c := anyCapture(r)
		x, e := indexOf(c)
		if e != api.OK {
			t.Fatal(e)
		}
		time := 95 + r.IntN(30)
		best := -1
		for i, p := range c.Packets {
			if p.Time >= time && (best < 0 || p.Time < c.Packets[best].Time) {
				best = i
			}
		}
		if n, found, e := file.Seek(x, time); e != api.OK || found != (best >= 0) || n != max(best, 0) {
			t.Fatalf("Seek of %d in %v: %d, %v, %d", time, x, n, found, e)
		}
	}
}
