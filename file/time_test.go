package file_test

import (
	"math"
	"math/big"
	"slices"
	"testing"

	"wireglass/api"
)

func TestShift(t *testing.T) {
	for _, c := range []struct {
		times []int
		by    int
		want  []int
	}{
		{[]int{5, 3, 9}, 4, []int{9, 7, 13}},
		{[]int{5, 3, 9}, 0, []int{5, 3, 9}},
		{[]int{5, 3, 9}, -3, []int{2, 0, 6}},
		{[]int{0, api.MaxTime - 1}, 1, []int{1, api.MaxTime}},
		{[]int{0}, api.MaxTime, []int{api.MaxTime}},
		{[]int{api.MaxTime}, -api.MaxTime, []int{0}},
		{nil, math.MaxInt, nil},
		{nil, math.MinInt, nil},
	} {
		out, e := shiftOf(timed(c.times...), c.by)
		gives(t, "Shift", out, e, retimed(timed(c.times...), c.want))
	}
	out, e := shiftOf(rich(), 5)
	gives(t, "Shift of all else", out, e, retimed(rich(), []int{35, 15, 25, 25}))
}

// retimed returns the capture with other times.
func retimed(c api.Capture, times []int) api.Capture {
	for i, time := range times {
		c.Packets[i].Time = time
	}
	return c
}

func TestShiftErrors(t *testing.T) {
	for _, c := range []struct {
		times []int
		by    int
	}{
		{[]int{5, 3, 9}, -4},
		{[]int{5, 9, 3}, -4},
		{[]int{0, api.MaxTime - 1, 0}, 2},
		{[]int{0}, -1},
		{[]int{api.MaxTime}, 1},
		{[]int{1}, math.MaxInt},
		{[]int{1}, math.MinInt},
		{[]int{api.MaxTime}, math.MaxInt},
		{[]int{api.MaxTime}, math.MinInt},
	} {
		out, e := shiftOf(timed(c.times...), c.by)
		refuses(t, "Shift", out, e, api.ErrArg)
	}
}

func TestDriftGivenTimes(t *testing.T) {
	for _, c := range []struct {
		times                  []int
		at1, true1, at2, true2 int
		want                   []int
	}{
		{[]int{10, 15, 20, 25, 5}, 10, 100, 20, 120, []int{100, 110, 120, 130, 90}},
		{[]int{10, 11, 12, 13, 9, 8, 7}, 10, 100, 13, 101, []int{100, 100, 100, 101, 99, 99, 99}},    // rounded down on both sides
		{[]int{10, 11, 12, 13, 9, 8, 7}, 13, 101, 10, 100, []int{100, 100, 100, 101, 99, 99, 99}},    // the first one behind the second one
		{[]int{10, 11, 12, 13, 9, 8, 7}, 10, 101, 13, 100, []int{101, 100, 100, 100, 101, 101, 102}}, // a clock that goes back
		{[]int{10, 11, 12, 13, 9, 8, 7}, 13, 100, 10, 101, []int{101, 100, 100, 100, 101, 101, 102}},
		{[]int{0, 7, api.MaxTime}, 3, 50, 9, 50, []int{50, 50, 50}}, // equal true times
		{[]int{0, 7, api.MaxTime}, 0, 0, 1, 1, []int{0, 7, api.MaxTime}},
		{[]int{0, 7, api.MaxTime}, 0, 0, api.MaxTime, api.MaxTime, []int{0, 7, api.MaxTime}},
		{[]int{0, 7, api.MaxTime}, 0, api.MaxTime, api.MaxTime, 0, []int{api.MaxTime, api.MaxTime - 7, 0}},
		{[]int{1, api.MaxTime - 1}, 0, 1, api.MaxTime, api.MaxTime, []int{1, api.MaxTime - 1}}, // sizes that have 100 bits
		{[]int{2, 4}, 2, 0, 4, api.MaxTime, []int{0, api.MaxTime}},                             // just to the ends
		{nil, 0, 0, 1, api.MaxTime, nil},
	} {
		out, e := driftOf(timed(c.times...), c.at1, c.true1, c.at2, c.true2)
		gives(t, "Drift", out, e, retimed(timed(c.times...), c.want))
	}
	out, e := driftOf(rich(), 0, 0, 10, 25)
	gives(t, "Drift of all else", out, e, retimed(rich(), []int{75, 25, 50, 50}))
}

func TestDriftErrors(t *testing.T) {
	for _, c := range []struct {
		name                   string
		times                  []int
		at1, true1, at2, true2 int
	}{
		{"equal ones", nil, 5, 1, 5, 2},
		{"equal ones, with a packet", []int{5}, 5, 1, 5, 1},
		{"the first one below 0", nil, -1, 1, 5, 2},
		{"the first true one below 0", nil, 1, -1, 5, 2},
		{"the second one below 0", nil, 1, 1, -1, 2},
		{"the second true one below 0", nil, 1, 1, 5, -1},
		{"the first one above", nil, api.MaxTime + 1, 1, 5, 2},
		{"the first true one above", nil, 1, api.MaxTime + 1, 5, 2},
		{"the second one above", nil, 1, 1, api.MaxTime + 1, 2},
		{"the second true one above", nil, 1, 1, 5, api.MaxTime + 1},
		{"far away", []int{1}, math.MinInt, math.MaxInt, math.MaxInt, math.MinInt},
		{"one below 0", []int{5, 1}, 2, 1, 3, 3},
		{"rounded down below 0", []int{9}, 10, 0, 12, 1},
		{"one above", []int{5, 11}, 0, 0, 10, api.MaxTime},
		{"just one above", []int{6}, 4, api.MaxTime - 1, 5, api.MaxTime},
		{"far above", []int{api.MaxTime}, 0, 0, 1, api.MaxTime},
		{"far below", []int{api.MaxTime}, 0, api.MaxTime, 1, 0},
		{"just below 2 to the power of 64", []int{1<<32 - 1}, 0, 5, 1, 1<<32 + 6},
		{"just below 2 to the power of 64, backwards", []int{1<<32 - 1}, 0, 1<<32 + 6, 1, 5},
		{"just below 2 to the power of 64, rounded down to it", []int{145295143558111}, 0, 253921, 2, 0}, // 2 to the power of 65, less 1
		{"beyond 64 bits", []int{api.MaxTime}, 1, 1, 2, api.MaxTime},
	} {
		out, e := driftOf(timed(c.times...), c.at1, c.true1, c.at2, c.true2)
		refuses(t, c.name, out, e, api.ErrArg)
	}
}

// modelDrift computes with numbers of any size; big.Int.Div rounds down for a positive divisor.
func modelDrift(time, at1, true1, at2, true2 int) (int, bool) {
	above := new(big.Int).Mul(big.NewInt(int64(time-at1)), big.NewInt(int64(true2-true1)))
	below := big.NewInt(int64(at2 - at1))
	if below.Sign() < 0 {
		above.Neg(above)
		below.Neg(below)
	}
	above.Div(above, below).Add(above, big.NewInt(int64(true1)))
	ok := above.Sign() >= 0 && above.Cmp(big.NewInt(api.MaxTime)) <= 0
	return int(above.Int64()), ok
}

func TestDriftOfAnyTimes(t *testing.T) {
	r := numbers(2)
	sizes := []int{3, 30, 1000, 1 << 20, 1 << 40, api.MaxTime}
	number := func() int {
		most := sizes[r.IntN(len(sizes))]
		n := r.IntN(most + 1)
		if r.IntN(4) == 0 {
			n = api.MaxTime - n
		}
		return n
	}
	right := 0
	for range 100000 {
		time, at1, true1, at2, true2 := number(), number(), number(), number(), number()
		if at1 == at2 {
			continue
		}
		out, e := driftOf(timed(time), at1, true1, at2, true2)
		want, ok := modelDrift(time, at1, true1, at2, true2)
		if !ok {
			refuses(t, "Drift of any times", out, e, api.ErrArg)
			continue
		}
		right++
		if e != api.OK || !slices.Equal(timesOf(out), []int{want}) {
			t.Fatalf("Drift of %d by %d %d %d %d: %v, %d; not %d", time, at1, true1, at2, true2, timesOf(out), e, want)
		}
	}
	if right < 10000 {
		t.Errorf("only %d times were right", right)
	}
}
