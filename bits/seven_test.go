package bits_test

import (
	"bytes"
	"math"
	"testing"

	"wireglass/api"
	"wireglass/bits"
)

func TestSevenGivenCases(t *testing.T) {
	for _, c := range []struct {
		n    int
		want []byte
	}{
		{0, []byte{0}},
		{1, []byte{1}},
		{127, []byte{127}},
		{128, []byte{0x80, 1}},
		{300, []byte{0xac, 2}},
		{16383, []byte{0xff, 0x7f}},
		{16384, []byte{0x80, 0x80, 1}},
		{1<<48 - 1, []byte{0xff, 0xff, 0xff, 0xff, 0xff, 0xff, 0x3f}},
	} {
		b, e := bits.Seven(c.n)
		if e != api.OK || !bytes.Equal(b, c.want) {
			t.Errorf("Seven of %d: %x, %d; not %x", c.n, b, e, c.want)
		}
	}
	for _, n := range []int{-1, 1 << 48, math.MaxInt, math.MinInt} {
		if b, e := bits.Seven(n); len(b) != 0 || e != api.ErrArg {
			t.Errorf("Seven of %d: %x, %d", n, b, e)
		}
	}
}

func TestUnsevenOfSevenIsTheNumber(t *testing.T) {
	for shift := range 48 {
		for _, n := range []int{1 << shift, 1<<shift - 1, 1<<shift + 1, 0x5a3c96e17d2b >> shift} {
			b, e := bits.Seven(n)
			if e != api.OK {
				t.Fatalf("Seven of %d: %d", n, e)
			}
			for _, behind := range [][]byte{nil, {0}, {0xff, 0xff}, pattern(30)} {
				v, size, e := bits.Unseven(append(bytes.Clone(b), behind...))
				if v != n || size != len(b) || e != api.OK {
					t.Errorf("Unseven of Seven of %d, with %x behind: %d, %d, %d", n, behind, v, size, e)
				}
			}
			if _, _, e := bits.Unseven(b[:len(b)-1]); e != api.ErrBroken {
				t.Errorf("Unseven of %x without its last byte: %d", b, e)
			}
		}
	}
}

func TestUnsevenErrors(t *testing.T) {
	for _, b := range [][]byte{
		nil,
		{0x80}, // does not end
		{0xff, 0xff},
		{0xff, 0xff, 0xff, 0xff, 0xff, 0xff, 0xff},
		{0xff, 0xff, 0xff, 0xff, 0xff, 0xff, 0xff, 1}, // more than 7 bytes
		{0x80, 0x80, 0x80, 0x80, 0x80, 0x80, 0x80, 0},
		{0x80, 0}, // needs fewer
		{0xff, 0},
		{0xff, 0x80, 0},
		{0xff, 0xff, 0xff, 0xff, 0xff, 0xff, 0},
		{0x80, 0x80, 0x80, 0x80, 0x80, 0x80, 0x40}, // too great
		{0xff, 0xff, 0xff, 0xff, 0xff, 0xff, 0x7f},
		bytes.Repeat([]byte{0x80}, 1000),
	} {
		if v, n, e := bits.Unseven(b); v != 0 || n != 0 || e != api.ErrBroken {
			t.Errorf("Unseven of %x: %d, %d, %d", b, v, n, e)
		}
	}
	if v, n, e := bits.Unseven([]byte{0, 0}); v != 0 || n != 1 || e != api.OK {
		t.Errorf("Unseven of 0: %d, %d, %d", v, n, e)
	}
}

func TestUnsevenTakesOneWayAlone(t *testing.T) {
	for x := range 256 {
		for y := range 256 {
			b := []byte{byte(x), byte(y)}
			v, n, e := bits.Unseven(b)
			switch {
			case x < 128:
				if v != x || n != 1 || e != api.OK {
					t.Errorf("Unseven of %x: %d, %d, %d", b, v, n, e)
				}
			case y == 0 || y >= 128:
				if e != api.ErrBroken {
					t.Errorf("Unseven of %x: %d", b, e)
				}
			default:
				if v != x-128+128*y || n != 2 || e != api.OK {
					t.Errorf("Unseven of %x: %d, %d, %d", b, v, n, e)
				}
			}
		}
	}
}
