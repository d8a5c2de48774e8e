package bits_test

import (
	"bytes"
	"math"
	"testing"

	"wireglass/api"
	"wireglass/bits"
)

// pattern returns n bytes whose bits follow no short rule.
func pattern(n int) []byte {
	out := make([]byte, n)
	state := uint32(2463534242)
	for i := range out {
		state ^= state << 13
		state ^= state >> 17
		state ^= state << 5
		out[i] = byte(state >> 11)
	}
	return out
}

// bitAt returns the bit n of bytes, as the chapter says it.
func bitAt(b []byte, n int) int {
	return int(b[n/8]) >> (7 - n%8) & 1
}

func TestGetReadsFromTheHighestBitDown(t *testing.T) {
	b := pattern(20)
	for n := 0; n <= api.MaxBits; n++ {
		for at := 0; at+n <= 8*len(b); at++ {
			want := 0
			for i := range n {
				want = want<<1 | bitAt(b, at+i)
			}
			if v, e := bits.Get(b, at, n, false); v != want || e != api.OK {
				t.Fatalf("Get at %d of %d bits: %x, %d; not %x", at, n, v, e, want)
			}
		}
	}
}

func TestGetReadsTheLowestByteFirst(t *testing.T) {
	b := pattern(12)
	for n := 0; n <= api.MaxBits; n += 8 {
		for at := 0; at+n <= 8*len(b); at += 8 {
			want := 0
			for i := n/8 - 1; i >= 0; i-- {
				want = want<<8 | int(b[at/8+i])
			}
			if v, e := bits.Get(b, at, n, true); v != want || e != api.OK {
				t.Fatalf("Get low at %d of %d bits: %x, %d; not %x", at, n, v, e, want)
			}
		}
	}
}

func TestGetGivenCases(t *testing.T) {
	all := bytes.Repeat([]byte{0xff}, 6)
	for _, c := range []struct {
		b     []byte
		at, n int
		low   bool
		want  int
	}{
		{[]byte{0xf0, 0x0f}, 4, 8, false, 0},
		{[]byte{0xf0, 0x0f}, 0, 16, true, 0x0ff0},
		{[]byte{0xf0, 0x0f}, 16, 0, false, 0},
		{[]byte{0xf0, 0x0f}, 16, 0, true, 0},
		{nil, 0, 0, false, 0},
		{nil, 0, 0, true, 0},
		{all, 0, api.MaxBits, false, 1<<48 - 1},
		{all, 0, api.MaxBits, true, 1<<48 - 1},
		{[]byte{1, 2, 3, 4, 5, 6}, 0, api.MaxBits, true, 0x060504030201},
		{[]byte{0xfe, 2, 3, 4, 5, 6, 0xff}, 7, api.MaxBits, false, 0x0203040506<<7 | 0x7f},
	} {
		if v, e := bits.Get(c.b, c.at, c.n, c.low); v != c.want || e != api.OK {
			t.Errorf("Get of %x at %d, %d bits, low %v: %x, %d; not %x", c.b, c.at, c.n, c.low, v, e, c.want)
		}
	}
}

// spanErrors are the errors that Get and Put have in common.
var spanErrors = []struct {
	size, at, n int
	low         bool
	want        api.Errno
}{
	{2, -1, 8, false, api.ErrArg},
	{2, math.MinInt, 8, false, api.ErrArg},
	{2, 0, -1, false, api.ErrArg},
	{2, 0, math.MinInt, true, api.ErrArg},
	{20, 0, api.MaxBits + 1, false, api.ErrArg},
	{20, 0, 56, true, api.ErrArg},
	{20, 0, math.MaxInt, false, api.ErrArg},
	{2, 4, 8, true, api.ErrArg},
	{2, 0, 4, true, api.ErrArg},
	{2, 4, 0, true, api.ErrArg},
	{0, -1, 8, false, api.ErrArg}, // before ErrNone
	{0, 4, 8, true, api.ErrArg},
	{0, 0, 49, false, api.ErrArg},
	{2, 9, 8, false, api.ErrNone},
	{2, 0, 17, false, api.ErrNone},
	{2, 16, 1, false, api.ErrNone},
	{2, 8, 16, true, api.ErrNone},
	{6, 1, api.MaxBits, false, api.ErrNone},
	{0, 0, 1, false, api.ErrNone},
	{2, math.MaxInt, 1, false, api.ErrNone},
	{2, math.MaxInt - 7, 8, true, api.ErrNone},
	{2, 17, 0, false, api.ErrNone},
	{2, math.MaxInt, 0, false, api.ErrNone},
}

func TestGetErrors(t *testing.T) {
	for _, c := range spanErrors {
		if v, e := bits.Get(make([]byte, c.size), c.at, c.n, c.low); v != 0 || e != c.want {
			t.Errorf("Get %v: %d, %d", c, v, e)
		}
	}
}

func TestGetAtTheLastBit(t *testing.T) {
	b := pattern(9)
	for n := 1; n <= api.MaxBits; n++ {
		last := 8*len(b) - n
		if _, e := bits.Get(b, last, n, false); e != api.OK {
			t.Errorf("Get of the last %d bits: %d", n, e)
		}
		if _, e := bits.Get(b, last+1, n, false); e != api.ErrNone {
			t.Errorf("Get of %d bits, one beyond: %d", n, e)
		}
	}
}

func TestPutChangesTheseBitsAlone(t *testing.T) {
	b := pattern(14)
	was := bytes.Clone(b)
	for n := 0; n <= api.MaxBits; n++ {
		for at := 0; at+n <= 8*len(b); at++ {
			for _, v := range []int{0, 1<<n - 1, 0x5a3c96e17d2b & (1<<n - 1)} {
				out, e := bits.Put(b, at, n, v, false)
				if e != api.OK || len(out) != len(b) {
					t.Fatalf("Put at %d of %d bits: %x, %d", at, n, out, e)
				}
				if got, _ := bits.Get(out, at, n, false); got != v {
					t.Fatalf("Put at %d of %d bits: %x is there, not %x", at, n, got, v)
				}
				for i := range 8 * len(b) {
					if (i < at || i >= at+n) && bitAt(out, i) != bitAt(b, i) {
						t.Fatalf("Put at %d of %d bits changed the bit %d", at, n, i)
					}
				}
			}
		}
	}
	if !bytes.Equal(b, was) {
		t.Errorf("Put changed its argument")
	}
}

func TestPutTheLowestByteFirst(t *testing.T) {
	b := bytes.Repeat([]byte{0xee}, 8)
	out, e := bits.Put(b, 8, api.MaxBits, 0x010203040506, true)
	if want := []byte{0xee, 6, 5, 4, 3, 2, 1, 0xee}; e != api.OK || !bytes.Equal(out, want) {
		t.Errorf("Put low: %x, %d", out, e)
	}
	out, e = bits.Put(b, 48, 16, 0x0102, true)
	if want := []byte{0xee, 0xee, 0xee, 0xee, 0xee, 0xee, 2, 1}; e != api.OK || !bytes.Equal(out, want) {
		t.Errorf("Put low at the end: %x, %d", out, e)
	}
	if out, e = bits.Put(b, 64, 0, 0, true); e != api.OK || !bytes.Equal(out, b) {
		t.Errorf("Put of no bits: %x, %d", out, e)
	}
}

func TestPutErrors(t *testing.T) {
	for _, c := range spanErrors {
		for _, v := range []int{0, -1} { // -1: ErrFit comes last
			if out, e := bits.Put(make([]byte, c.size), c.at, c.n, v, c.low); len(out) != 0 || e != c.want {
				t.Errorf("Put %v of %d: %x, %d", c, v, out, e)
			}
		}
	}
	for _, c := range []struct{ n, v int }{
		{0, 1}, {0, -1}, {1, 2}, {4, 16}, {8, -1}, {8, 256}, {8, math.MinInt}, {api.MaxBits, 1 << api.MaxBits}, {api.MaxBits, math.MaxInt},
	} {
		if out, e := bits.Put(make([]byte, 6), 0, c.n, c.v, false); len(out) != 0 || e != api.ErrFit {
			t.Errorf("Put %v: %x, %d", c, out, e)
		}
	}
}

func TestPutIsNewMemory(t *testing.T) {
	b := []byte{1, 2}
	out, _ := bits.Put(b, 0, 0, 0, false)
	out[0] = 9
	if b[0] != 1 {
		t.Errorf("the result of Put is its argument")
	}
}

func TestSigned(t *testing.T) {
	for _, c := range []struct{ v, n, want int }{
		{0, 1, 0}, {1, 1, -1}, {7, 4, 7}, {8, 4, -8}, {15, 4, -1}, {127, 8, 127}, {128, 8, -128},
		{0, api.MaxBits, 0},
		{1<<47 - 1, api.MaxBits, 1<<47 - 1},
		{1 << 47, api.MaxBits, -1 << 47},
		{1<<48 - 1, api.MaxBits, -1},
	} {
		if v, e := bits.Signed(c.v, c.n); v != c.want || e != api.OK {
			t.Errorf("Signed %v: %d, %d", c, v, e)
		}
	}
	for _, c := range []struct {
		v, n int
		want api.Errno
	}{
		{0, 0, api.ErrArg}, {0, -1, api.ErrArg}, {0, api.MaxBits + 1, api.ErrArg}, {0, math.MaxInt, api.ErrArg}, {0, math.MinInt, api.ErrArg},
		{-1, 0, api.ErrArg}, {-1, 49, api.ErrArg}, // before ErrFit
		{-1, 8, api.ErrFit}, {256, 8, api.ErrFit}, {2, 1, api.ErrFit}, {1 << 48, api.MaxBits, api.ErrFit}, {math.MinInt, 1, api.ErrFit},
	} {
		if v, e := bits.Signed(c.v, c.n); v != 0 || e != c.want {
			t.Errorf("Signed %v: %d, %d", c, v, e)
		}
	}
}

func TestBytesPutsTogether(t *testing.T) {
	b := pattern(9)
	for n := 0; n <= len(b); n++ {
		for at := 0; at+8*n <= 8*len(b); at++ {
			out, e := bits.Bytes(b, at, n)
			if e != api.OK || len(out) != n {
				t.Fatalf("Bytes at %d, %d of them: %x, %d", at, n, out, e)
			}
			for i := range 8 * n {
				if bitAt(out, i) != bitAt(b, at+i) {
					t.Fatalf("Bytes at %d, %d of them: the bit %d is another one", at, n, i)
				}
			}
			if _, e := bits.Bytes(b, 8*len(b)-8*n+1, n); e != api.ErrNone {
				t.Fatalf("Bytes one bit beyond, %d of them: %d", n, e)
			}
		}
	}
}

func TestBytesErrors(t *testing.T) {
	for _, c := range []struct {
		size, at, n int
		want        api.Errno
	}{
		{2, -1, 1, api.ErrArg}, {2, 0, -1, api.ErrArg}, {2, math.MinInt, 1, api.ErrArg}, {2, 0, math.MinInt, api.ErrArg},
		{2, math.MaxInt, -1, api.ErrArg}, {2, -1, math.MaxInt, api.ErrArg}, // before ErrNone
		{2, 0, 3, api.ErrNone}, {2, 1, 2, api.ErrNone}, {2, 16, 1, api.ErrNone}, {0, 0, 1, api.ErrNone},
		{2, math.MaxInt, 0, api.ErrNone}, {2, 0, math.MaxInt, api.ErrNone}, {2, math.MaxInt, math.MaxInt, api.ErrNone},
	} {
		if out, e := bits.Bytes(make([]byte, c.size), c.at, c.n); len(out) != 0 || e != c.want {
			t.Errorf("Bytes %v: %x, %d", c, out, e)
		}
	}
	if out, e := bits.Bytes(nil, 0, 0); len(out) != 0 || e != api.OK {
		t.Errorf("Bytes of nothing: %x, %d", out, e)
	}
}

func TestBytesIsNewMemory(t *testing.T) {
	b := []byte{1, 2}
	out, _ := bits.Bytes(b, 0, 2)
	out[0] = 9
	if b[0] != 1 {
		t.Errorf("the result of Bytes is its argument")
	}
}
