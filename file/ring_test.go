package file_test

import (
	"math"
	"slices"
	"strings"
	"sync"
	"testing"

	"wireglass/api"
	"wireglass/capt"
	"wireglass/file"
)

// ringOf returns a new ring.
func ringOf(t *testing.T, files, packets int) *file.Ring {
	t.Helper()
	r, e := file.NewRing(files, packets)
	if e != api.OK || r == nil {
		t.Fatalf("NewRing of %d and %d: %d", files, packets, e)
	}
	return r
}

// holds tells what is in a ring: the times of the packets of each file, and how many are lost.
func holds(t *testing.T, r *file.Ring, lost int, want ...[]int) {
	t.Helper()
	var got [][]int
	for _, l := range r.Files() {
		got = append(got, timesOf(api.Capture{Packets: l}))
	}
	if !slices.EqualFunc(got, want, slices.Equal[[]int]) || r.Lost() != lost {
		t.Errorf("a ring holds %v, and lost %d; not %v, %d", got, r.Lost(), want, lost)
	}
}

// put puts packets with these times.
func put(t *testing.T, r *file.Ring, times ...int) {
	t.Helper()
	for _, time := range times {
		if e := r.Put(api.Packet{Time: time}); e != api.OK {
			t.Fatalf("Put: %d", e)
		}
	}
}

func TestRingKeepsTheLastFiles(t *testing.T) {
	r := ringOf(t, 3, 2)
	for _, l := range r.Files() {
		if len(l) > 0 {
			t.Errorf("a new ring holds %v", l)
		}
	}
	if r.Lost() != 0 {
		t.Errorf("a new ring has lost %d", r.Lost())
	}
	put(t, r, 1)
	holds(t, r, 0, []int{1})
	put(t, r, 2) // the first file is full now
	holds(t, r, 0, []int{1, 2})
	put(t, r, 3)
	holds(t, r, 0, []int{1, 2}, []int{3})
	put(t, r, 4, 5, 6) // all files are full now
	holds(t, r, 0, []int{1, 2}, []int{3, 4}, []int{5, 6})
	put(t, r, 7)
	holds(t, r, 2, []int{3, 4}, []int{5, 6}, []int{7})
	put(t, r, 8)
	holds(t, r, 2, []int{3, 4}, []int{5, 6}, []int{7, 8})
	put(t, r, 9)
	holds(t, r, 4, []int{5, 6}, []int{7, 8}, []int{9})
}

func TestRingsOfOne(t *testing.T) {
	one := ringOf(t, 1, 1)
	put(t, one, 1)
	holds(t, one, 0, []int{1})
	put(t, one, 2, 3)
	holds(t, one, 2, []int{3})
	files := ringOf(t, 2, 1)
	put(t, files, 1, 2, 3)
	holds(t, files, 1, []int{2}, []int{3})
	packets := ringOf(t, 1, 2)
	put(t, packets, 1, 2)
	holds(t, packets, 0, []int{1, 2})
	put(t, packets, 3)
	holds(t, packets, 2, []int{3})
}

func TestRingLimits(t *testing.T) {
	r := ringOf(t, api.MaxItems, api.MaxPackets)
	for range api.MaxItems * api.MaxPackets {
		put(t, r, 5)
	}
	if files := r.Files(); len(files) != api.MaxItems || len(files[0]) != api.MaxPackets || len(files[api.MaxItems-1]) != api.MaxPackets || r.Lost() != 0 {
		t.Errorf("a full ring has %d files and lost %d", len(files), r.Lost())
	}
	put(t, r, 6)
	if files := r.Files(); len(files) != api.MaxItems || len(files[api.MaxItems-1]) != 1 || r.Lost() != api.MaxPackets {
		t.Errorf("a ring that was full has %d files and lost %d", len(files), r.Lost())
	}
	for _, n := range [][2]int{
		{0, 1}, {1, 0}, {0, 0}, {-1, 1}, {1, -1}, {api.MaxItems + 1, 1}, {1, api.MaxPackets + 1},
		{math.MinInt, 1}, {1, math.MinInt}, {math.MaxInt, 1}, {1, math.MaxInt},
	} {
		if r, e := file.NewRing(n[0], n[1]); e != api.ErrArg || r != nil {
			t.Errorf("NewRing %v: %d", n, e)
		}
	}
}

func TestRingTakesThePacketsOfCaptures(t *testing.T) {
	r := ringOf(t, 2, 100)
	good := []api.Packet{
		{},
		{Time: api.MaxTime, Face: api.MaxFaces - 1, Real: 1000000, Data: noise(20, api.MaxPacket), Note: strings.Repeat("~", api.MaxText)},
		{Time: 1, Face: 1, Real: 3, Data: []byte{1, 2, 3}, Note: " "},
	}
	for _, p := range good {
		if e := r.Put(p); e != api.OK {
			t.Errorf("Put: %d", e)
		}
	}
	for i, p := range []api.Packet{
		{Face: -1}, {Face: api.MaxFaces}, {Face: math.MinInt}, {Face: math.MaxInt},
		{Time: -1}, {Time: api.MaxTime + 1}, {Time: math.MinInt},
		{Real: -1}, {Real: 1, Data: []byte{1, 2}}, {Real: 1000001},
		{Real: 1000, Data: make([]byte, api.MaxPacket+1)},
		{Note: strings.Repeat("~", api.MaxText+1)}, {Note: "\n"}, {Note: "\x7f"}, {Note: "\x1f"},
	} {
		if e := r.Put(p); e != api.ErrArg {
			t.Errorf("Put of the packet %d: %d", i, e)
		}
	}
	files := r.Files()
	if len(files) != 1 || r.Lost() != 0 {
		t.Fatalf("the ring has %d files and lost %d", len(files), r.Lost())
	}
	samePackets(t, files[0], good)
}

func samePackets(t *testing.T, got, want []api.Packet) {
	t.Helper()
	if !capt.Same(api.Capture{Packets: got}, api.Capture{Packets: want}) {
		t.Errorf("the packets are %v, not %v", got, want)
	}
}

func TestRingIsItsOwnMemory(t *testing.T) {
	r := ringOf(t, 2, 2)
	data := []byte{1, 2}
	want := []api.Packet{{Time: 1, Real: 2, Data: []byte{1, 2}}}
	if e := r.Put(api.Packet{Time: 1, Real: 2, Data: data}); e != api.OK {
		t.Fatal(e)
	}
	fill(data)
	first := r.Files()
	samePackets(t, first[0], want)
	second := r.Files()
	spoil(api.Capture{Packets: first[0]})
	samePackets(t, second[0], want)
	samePackets(t, r.Files()[0], want)
	put(t, r, 9)
	samePackets(t, second[0], want)
	first[0] = append(first[0], api.Packet{Time: 5})
	holds(t, r, 0, []int{1, 9})
}

func TestNoRing(t *testing.T) {
	var r *file.Ring
	if e := r.Put(api.Packet{}); e != api.ErrState {
		t.Errorf("Put into a nil ring: %d", e)
	}
	if e := r.Put(api.Packet{Face: -1}); e != api.ErrState {
		t.Errorf("Put of no packet into a nil ring: %d", e)
	}
	if l := r.Files(); len(l) != 0 {
		t.Errorf("Files of a nil ring: %v", l)
	}
	if n := r.Lost(); n != 0 {
		t.Errorf("Lost of a nil ring: %d", n)
	}
	var unmade file.Ring // it must not panic
	unmade.Put(api.Packet{})
	if len(unmade.Files()) != 0 || unmade.Lost() != 0 {
		t.Errorf("a ring that was not made has %v", unmade.Files())
	}
}

func TestRingOfSeveralGoroutines(t *testing.T) {
	const workers, each, files, packets = 8, 500, 5, 7
	r := ringOf(t, files, packets)
	var all sync.WaitGroup
	for w := range workers {
		all.Go(func() {
			for i := range each {
				if e := r.Put(api.Packet{Time: w*each + i, Real: 1, Data: []byte{byte(w)}}); e != api.OK {
					t.Errorf("Put: %d", e)
				}
			}
		})
		all.Go(func() {
			lost := 0
			for range each {
				look(t, r.Files(), files, packets)
				now := r.Lost()
				if now < lost || now%packets != 0 {
					t.Errorf("lost %d, then %d", lost, now)
				}
				lost = now
			}
		})
	}
	all.Wait()
	look(t, r.Files(), files, packets)
	count := 0
	for _, l := range r.Files() {
		count += len(l)
	}
	if count+r.Lost() != workers*each {
		t.Errorf("%d packets and %d lost ones are not %d", count, r.Lost(), workers*each)
	}
}

// look tells whether all files but the newest are full, and the packets of each goroutine are in order.
func look(t *testing.T, l [][]api.Packet, files, packets int) {
	last := map[byte]int{}
	for i, f := range l {
		if len(l) > files || len(f) > packets || i < len(l)-1 && len(f) != packets {
			t.Errorf("a ring has %d files, the %d-th one with %d packets", len(l), i, len(f))
		}
		for _, p := range f {
			if was, ok := last[p.Data[0]]; ok && was >= p.Time {
				t.Errorf("the packets of a goroutine are out of order")
			}
			last[p.Data[0]] = p.Time
		}
	}
}
