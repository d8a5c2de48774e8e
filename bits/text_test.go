package bits_test

import (
	"bytes"
	"strings"
	"testing"

	"wireglass/api"
	"wireglass/bits"
)

func TestHex(t *testing.T) {
	for _, c := range []struct {
		b    []byte
		want string
	}{{nil, ""}, {[]byte{0}, "00"}, {[]byte{0x0a, 0xff, 0x9f}, "0aff9f"}} {
		if s := bits.Hex(c.b); s != c.want {
			t.Errorf("Hex of %x: %q", c.b, s)
		}
	}
	for x := range 256 {
		b := []byte{byte(x), byte(255 - x)}
		s := bits.Hex(b)
		for _, text := range []string{s, strings.ToUpper(s)} {
			if out, e := bits.Unhex(text); e != api.OK || !bytes.Equal(out, b) {
				t.Errorf("Unhex of %q: %x, %d", text, out, e)
			}
		}
	}
}

func TestUnhex(t *testing.T) {
	if b, e := bits.Unhex(""); len(b) != 0 || e != api.OK {
		t.Errorf("Unhex of nothing: %x, %d", b, e)
	}
	if b, e := bits.Unhex("0aFfAe"); e != api.OK || !bytes.Equal(b, []byte{0x0a, 0xff, 0xae}) {
		t.Errorf("Unhex of mixed letters: %x, %d", b, e)
	}
	for _, s := range []string{"0", "abc", "0g", "g0", "/0", "0:", "@0", "0G", "`0", " 0", "0 ", "00 ", "00 1", "0x10", "-1", "00\n0", "\x80\x80", "é"} {
		if b, e := bits.Unhex(s); len(b) != 0 || e != api.ErrSyntax {
			t.Errorf("Unhex of %q: %x, %d", s, b, e)
		}
	}
}

// The lines of a dump of 33 bytes, of which the first one is 31.
const dump33 = "" +
	"0000  1f 20 21 22 23 24 25 26  27 28 29 2a 2b 2c 2d 2e  . !\"#$%&'()*+,-.\n" +
	"0016  2f 30 31 32 33 34 35 36  37 38 39 3a 3b 3c 3d 3e  /0123456789:;<=>\n" +
	"0032  3f                                                ?\n"

func TestDumpGivenCases(t *testing.T) {
	from31 := make([]byte, 33)
	for i := range from31 {
		from31[i] = byte(31 + i)
	}
	for _, c := range []struct {
		b    []byte
		want string
	}{
		{nil, ""},
		{[]byte("ab\x00"), "0000  61 62 00                                          ab.\n"},
		{from31[:8], "0000  1f 20 21 22 23 24 25 26                           . !\"#$%&\n"},
		{from31[:9], "0000  1f 20 21 22 23 24 25 26  27                       . !\"#$%&'\n"},
		{from31[:16], dump33[:73]},
		{from31, dump33},
		{[]byte{126, 127, 128, 255, 10, 9}, "0000  7e 7f 80 ff 0a 09                                 ~.....\n"},
	} {
		s, e := bits.Dump(c.b)
		if s != c.want || e != api.OK {
			t.Errorf("Dump of %x: %q, %d; not %q", c.b, s, e, c.want)
		}
		if b, e := bits.Undump(c.want); e != api.OK || !bytes.Equal(b, c.b) {
			t.Errorf("Undump of %q: %x, %d", c.want, b, e)
		}
	}
}

func TestDumpOfAllLengths(t *testing.T) {
	b := pattern(4 * api.MaxPacket)
	for n := 0; n <= len(b); n++ {
		s, e := bits.Dump(b[:n])
		if e != api.OK {
			t.Fatalf("Dump of %d bytes: %d", n, e)
		}
		if out, e := bits.Undump(s); e != api.OK || !bytes.Equal(out, b[:n]) {
			t.Fatalf("Undump of Dump of %d bytes: %x, %d", n, out, e)
		}
	}
	s, _ := bits.Dump(b)
	if last := s[len(s)-73:]; !strings.HasPrefix(last, "1584  ") {
		t.Errorf("the last line of a dump: %q", last)
	}
}

func TestDumpErrors(t *testing.T) {
	if s, e := bits.Dump(make([]byte, 4*api.MaxPacket)); s == "" || e != api.OK {
		t.Errorf("Dump of the most bytes: %d", e)
	}
	if s, e := bits.Dump(make([]byte, 4*api.MaxPacket+1)); s != "" || e != api.ErrLarge {
		t.Errorf("Dump of one byte more: %q, %d", s, e)
	}
}

func TestUndumpTakesNoOtherText(t *testing.T) {
	for i := range len(dump33) {
		for _, c := range []byte{' ', '.', '0', '1', 'a', 'A', 'f', 'F', '\n', 0, 255} {
			text := dump33[:i] + string([]byte{c}) + dump33[i+1:]
			b, e := bits.Undump(text)
			if again, _ := bits.Dump(b); e == api.OK && again == text { // another byte without a character of its own
				continue
			}
			if len(b) != 0 || e != api.ErrSyntax {
				t.Fatalf("Undump with %q at %d: %x, %d", c, i, b, e)
			}
		}
		for _, text := range []string{dump33[:i] + dump33[i+1:], dump33[:i] + " " + dump33[i:]} {
			if b, e := bits.Undump(text); len(b) != 0 || e != api.ErrSyntax {
				t.Fatalf("Undump with a byte more or less at %d: %x, %d", i, b, e)
			}
		}
	}
	short, _ := bits.Dump([]byte("ab"))
	full, _ := bits.Dump(make([]byte, 4*api.MaxPacket))
	for _, text := range []string{
		"\n", " ", "0000", "0000  \n", "x",
		short + "\n", "\n" + short, short + short,
		short[:len(short)-1], short[:len(short)-1] + "\r\n",
		strings.ToUpper(strings.Replace(short, "61", "6A", 1)),
		dump33[73:], // the first line lacks
		full + "1600  00                                                .\n",
		full + full,
		dump33[:72] + "/\n",
	} {
		if b, e := bits.Undump(text); len(b) != 0 || e != api.ErrSyntax {
			t.Errorf("Undump of %q: %x, %d", text, b, e)
		}
	}
}

func TestUndumpOfLinesOfAllLengths(t *testing.T) {
	for n := range 300 {
		text := strings.Repeat("0", n) + "\n"
		if b, e := bits.Undump(text); len(b) != 0 || e != api.ErrSyntax {
			t.Errorf("Undump of a line of %d zeros: %x, %d", n, b, e)
		}
	}
}
