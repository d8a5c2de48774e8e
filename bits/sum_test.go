package bits_test

import (
	"bytes"
	"math"
	"testing"

	"wireglass/bits"
)

func TestSumGivenCases(t *testing.T) {
	for _, c := range []struct {
		b    []byte
		want int
	}{
		{nil, 65535},
		{[]byte{}, 65535},
		{[]byte{0}, 65535},
		{[]byte{0, 1, 0xf2, 3}, 0x0dfb},
		{[]byte{0xff, 0xff}, 0},
		{[]byte{0xff}, 0x00ff},                  // an odd byte is the high one
		{[]byte{0, 1, 0xf2}, 0x0dfe},            // likewise at the end of others
		{[]byte{0xff, 0xff, 0, 1}, 0xfffe},      // 10000 is 1
		{bytes.Repeat([]byte{0xff}, 131072), 0}, // what goes beyond comes many times
	} {
		if n := bits.Sum(c.b); n != c.want {
			t.Errorf("Sum of %d bytes: %x, not %x", len(c.b), n, c.want)
		}
	}
}

// slowSum makes the check with one addition at a time.
func slowSum(b []byte) int {
	sum := 0
	for i := 0; i < len(b); i += 2 {
		v := int(b[i]) * 256
		if i+1 < len(b) {
			v += int(b[i+1])
		}
		sum += v
		if sum > 65535 {
			sum -= 65535
		}
	}
	return 65535 - sum
}

func TestSumOfAllLengths(t *testing.T) {
	b := bytes.Repeat([]byte{0x80, 0xff, 0xff}, 50000) // so many that what goes beyond goes beyond again
	if got, want := bits.Sum(b), slowSum(b); got != want {
		t.Errorf("Sum of many bytes: %x, not %x", got, want)
	}
	b = pattern(401)
	for n := range b {
		if got, want := bits.Sum(b[:n]), slowSum(b[:n]); got != want {
			t.Errorf("Sum of %d bytes: %x, not %x", n, got, want)
		}
	}
}

func TestSumWithItsCheckIsZero(t *testing.T) {
	b := pattern(20)
	b[10], b[11] = 0, 0
	sum := bits.Sum(b)
	b[10], b[11] = byte(sum>>8), byte(sum)
	if n := bits.Sum(b); n != 0 {
		t.Errorf("Sum of a head with its check: %x", n)
	}
}

func TestMendIsTheSumOfTheOthers(t *testing.T) {
	numbers := []int{0, 1, 0xff, 0x100, 0x7fff, 0x8000, 0xfffe, 0xffff, 0x1234}
	for _, first := range numbers {
		for _, was := range numbers {
			for _, now := range numbers {
				b := []byte{byte(first >> 8), byte(first), byte(was >> 8), byte(was), 0x77}
				before := bits.Sum(b)
				b[2], b[3] = byte(now>>8), byte(now)
				after := bits.Sum(b)
				got := bits.Mend(before, was, now)
				if got != after && !(got == 0 && after == 65535 || got == 65535 && after == 0) {
					t.Errorf("Mend(%x, %x, %x): %x, not %x", before, was, now, got, after)
				}
			}
		}
	}
}

func TestMendGivenCases(t *testing.T) {
	for _, c := range []struct{ sum, was, now, want int }{
		{0x0dfb, 0xf203, 0xf204, 0x0dfa},
		{0xdd2f, 0x5555, 0x3285, 0x0000}, // RFC 1624, section 4
		{65535, 0, 0, 0},                 // 0 + FFFF + 0
		{65535, 65535, 0, 65535},
		{0, 0, 0, 0},
		{0, 65535, 65535, 0},
		{0x0dfb + 65536, 0xf203 - 65536, 0xf204 + 5*65536, 0x0dfa}, // modulo 65536
		{-1, -1, -65536, 65535},
		{math.MinInt, math.MinInt, math.MinInt, 0},
		{math.MaxInt, math.MaxInt, math.MaxInt, 0},
	} {
		if n := bits.Mend(c.sum, c.was, c.now); n != c.want {
			t.Errorf("Mend %v: %x", c, n)
		}
	}
}

// slowCrc divides bit by bit.
func slowCrc(b []byte) int {
	crc := uint32(0xffffffff)
	for _, x := range b {
		crc ^= uint32(x)
		for range 8 {
			odd := crc&1 == 1
			crc >>= 1
			if odd {
				crc ^= 0xedb88320
			}
		}
	}
	return int(crc ^ 0xffffffff)
}

func TestCrc(t *testing.T) {
	if n := bits.Crc([]byte("123456789")); n != 0xcbf43926 {
		t.Errorf("Crc: %x", n)
	}
	if n := bits.Crc(nil); n != 0 {
		t.Errorf("Crc of nothing: %x", n)
	}
	for x := range 256 {
		b := []byte{byte(x)}
		if got, want := bits.Crc(b), slowCrc(b); got != want {
			t.Errorf("Crc of %x: %x, not %x", b, got, want)
		}
	}
	b := pattern(600)
	for n := range b {
		if got, want := bits.Crc(b[:n]), slowCrc(b[:n]); got != want {
			t.Errorf("Crc of %d bytes: %x, not %x", n, got, want)
		}
	}
}

func TestAdler(t *testing.T) {
	for _, c := range []struct {
		b    []byte
		want int
	}{
		{nil, 1},
		{[]byte{0}, 0x00010001},
		{[]byte("a"), 0x00620062},
		{[]byte("abc"), 0x024d0127},
		{[]byte("Wikipedia"), 0x11e60398},
	} {
		if n := bits.Adler(c.b); n != c.want {
			t.Errorf("Adler of %q: %x, not %x", c.b, n, c.want)
		}
	}
	b := bytes.Repeat([]byte{0xff}, 131072)
	first, second := 1, 0
	for _, x := range b {
		first += int(x)
		second += first
	}
	if got, want := bits.Adler(b), second%65521*65536+first%65521; got != want {
		t.Errorf("Adler of many bytes: %x, not %x", got, want)
	}
}
