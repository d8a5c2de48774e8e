package capt_test

import (
	"bytes"
	"slices"
	"testing"

	"wireglass/api"
	"wireglass/bits"
	"wireglass/capt"
)

// hexOf returns the bytes of lines in hexadecimal with blanks.
func hexOf(t *testing.T, lines ...string) []byte {
	t.Helper()
	var digits []byte
	for _, line := range lines {
		for _, c := range []byte(line) {
			if c != ' ' {
				digits = append(digits, c)
			}
		}
	}
	b, e := bits.Unhex(string(digits))
	if e != api.OK {
		t.Fatalf("no hexadecimal: %q", lines)
	}
	return b
}

func TestWriteOldGivenBytes(t *testing.T) {
	c := api.Capture{
		Faces:   []api.Face{face("", 0x0102, 0x0103)},
		Packets: []api.Packet{packet(0x010203*1000000+0x040506, 0, 0x0708, []byte("abc"), ""), packet(999999, 0, 0, nil, "")},
	}
	for _, w := range []struct {
		low  bool
		want []byte
	}{
		{false, hexOf(t, "a1b2c3d4 0002 0004 00000000 00000000 00000103 00000102",
			"00010203 00040506 00000003 00000708 616263", "00000000 000f423f 00000000 00000000")},
		{true, hexOf(t, "d4c3b2a1 0200 0400 00000000 00000000 03010000 02010000",
			"03020100 06050400 03000000 08070000 616263", "00000000 3f420f00 00000000 00000000")},
	} {
		if b, e := capt.Write(c, true, w.low); e != api.OK || !bytes.Equal(b, w.want) {
			t.Errorf("Write of the old kind, low %v: %x, %d", w.low, b, e)
		}
	}
}

func TestWriteBlocksGivenBytes(t *testing.T) {
	c := api.Capture{
		Note:    "hello",
		Faces:   []api.Face{face("eth0", 0x0102, 0x0103), face("", 1, 0)},
		Names:   []api.Name{name([]byte{10, 0, 0, 1}, "gw"), name([]byte{9}, "")},
		Secrets: []api.Secret{secret("key", []byte{0xca, 0xfe})},
		Packets: []api.Packet{packet(0x0102030405060, 1, 0x0708, []byte("abc"), ""), packet(5, 0, 0, nil, "ab")},
	}
	high := hexOf(t,
		"0a0d0d0a 0000002c 1a2b3c4d 0001 0000 ffffffffffffffff 0001 0005 68656c6c6f 000000 00000000 0000002c",
		"00000001 00000020 0102 0000 00000103 0002 0004 65746830 00000000 00000020",
		"00000001 00000014 0001 0000 00000000 00000014",
		"00000004 00000018 0004 0002 0a000001 6777 0000 00000018",
		"00000004 00000014 0001 0000 09 000000 00000014",
		"0000000a 00000018 0003 0002 6b6579 cafe 000000 00000018",
		"00000006 00000024 00000001 00001020 30405060 00000003 00000708 616263 00 00000024",
		"00000006 0000002c 00000000 00000000 00000005 00000000 00000000 0001 0002 6162 0000 00000000 0000002c")
	low := hexOf(t,
		"0a0d0d0a 2c000000 4d3c2b1a 0100 0000 ffffffffffffffff 0100 0500 68656c6c6f 000000 00000000 2c000000",
		"01000000 20000000 0201 0000 03010000 0200 0400 65746830 00000000 20000000",
		"01000000 14000000 0100 0000 00000000 14000000",
		"04000000 18000000 0400 0200 0a000001 6777 0000 18000000",
		"04000000 14000000 0100 0000 09 000000 14000000",
		"0a000000 18000000 0300 0200 6b6579 cafe 000000 18000000",
		"06000000 24000000 01000000 20100000 60504030 03000000 08070000 616263 00 24000000",
		"06000000 2c000000 00000000 00000000 05000000 00000000 00000000 0100 0200 6162 0000 00000000 2c000000")
	if b, e := capt.Write(c, false, false); e != api.OK || !bytes.Equal(b, high) {
		t.Errorf("Write of blocks, the highest byte first: %x, %d", b, e)
	}
	if b, e := capt.Write(c, false, true); e != api.OK || !bytes.Equal(b, low) {
		t.Errorf("Write of blocks, the lowest byte first: %x, %d", b, e)
	}
	for _, b := range [][]byte{high, low} {
		if out, torn, e := capt.Read(b); e != api.OK || torn != 0 || !capt.Same(out, c) {
			t.Errorf("Read: %v, %d, %d", out, torn, e)
		}
	}
}

// made returns the file of a capture, made without the package's help.
func made(c api.Capture, low bool) []byte {
	o := numbersOf(low)
	option := func(code int, text string) []byte {
		if text == "" {
			return nil
		}
		return append(optionOf(o, code, text), 0, 0, 0, 0)
	}
	fill := func(n int) []byte { return zeros((4 - n%4) % 4) }
	out := sectionWith(o, option(1, c.Note))
	for _, f := range c.Faces {
		out = append(out, faceWith(o, f.Link, f.Snap, option(2, f.Name))...)
	}
	for _, n := range c.Names {
		size := len(n.Address) + len(n.Text)
		out = append(out, rawBlock(o, 4, twos(o, len(n.Address), len(n.Text)), n.Address, []byte(n.Text), fill(size))...)
	}
	for _, s := range c.Secrets {
		size := len(s.Label) + len(s.Key)
		out = append(out, rawBlock(o, 10, twos(o, len(s.Label), len(s.Key)), []byte(s.Label), s.Key, fill(size))...)
	}
	for _, p := range c.Packets {
		head := fours(o, p.Face, p.Time>>32, p.Time, len(p.Data), p.Real)
		out = append(out, rawBlock(o, 6, head, p.Data, fill(len(p.Data)), option(1, p.Note))...)
	}
	return out
}

// madeOld returns the file of the old kind likewise.
func madeOld(c api.Capture, low bool) []byte {
	o := numbersOf(low)
	out := oldHeadOf(o, c.Faces[0].Snap, c.Faces[0].Link)
	for _, p := range c.Packets {
		out = append(out, recordOf(o, p.Time/1000000, p.Time%1000000, p.Real, string(p.Data))...)
	}
	return out
}

func TestWriteIsWhatTheChapterSays(t *testing.T) {
	for i, c := range captures() {
		plain, _ := capt.Plain(c)
		for _, low := range []bool{false, true} {
			if b, e := capt.Write(c, false, low); e != api.OK || !bytes.Equal(b, made(c, low)) {
				t.Errorf("Write of capture %d, low %v: %d bytes, %d", i, low, len(b), e)
			}
			if b, e := capt.Write(plain, true, low); e != api.OK || !bytes.Equal(b, madeOld(plain, low)) {
				t.Errorf("Write of plain capture %d, low %v: %d bytes, %d", i, low, len(b), e)
			}
		}
	}
}

func TestWriteOfLengthsModulo4(t *testing.T) {
	for n := range 9 {
		c := api.Capture{
			Note:    longText(n),
			Faces:   []api.Face{face(longText(n), 1, 0)},
			Names:   []api.Name{name(anyBytes(1+n), longText(n)), name([]byte{1}, longText(n))},
			Secrets: []api.Secret{secret(longText(1+n), anyBytes(1+n)), secret("a", anyBytes(1+n))},
			Packets: []api.Packet{packet(1, 0, n, anyBytes(n), longText(n)), packet(2, 0, n, anyBytes(n), ""), packet(3, 0, 0, nil, longText(n))},
		}
		for _, low := range []bool{false, true} {
			b, e := capt.Write(c, false, low)
			if e != api.OK || !bytes.Equal(b, made(c, low)) || len(b)%4 != 0 {
				t.Errorf("Write with lengths %d, low %v: %x, %d", n, low, b, e)
			}
			if out, torn, e := capt.Read(b); e != api.OK || torn != 0 || !capt.Same(out, c) {
				t.Errorf("Read with lengths %d, low %v: %v, %d, %d", n, low, out, torn, e)
			}
		}
	}
}

func TestWriteSizes(t *testing.T) {
	for _, low := range []bool{false, true} {
		if b, _ := capt.Write(bare(), true, low); len(b) != 24 {
			t.Errorf("an old file without packets has %d bytes", len(b))
		}
		if b, _ := capt.Write(bare(), false, low); len(b) != 28+20 {
			t.Errorf("a section and an interface have %d bytes", len(b))
		}
		if b, e := capt.Write(fullest(), false, low); e != api.OK || len(b) > api.MaxFile {
			t.Errorf("the greatest file: %d bytes, %d", len(b), e)
		}
	}
}

func TestWriteOldErrors(t *testing.T) {
	for _, c := range []struct {
		name   string
		change func(c *api.Capture)
		want   api.Errno
	}{
		{"nothing", func(c *api.Capture) {}, api.OK},
		{"no packets", func(c *api.Capture) { c.Packets = nil }, api.OK},
		{"empty lists", func(c *api.Capture) { c.Names, c.Secrets = []api.Name{}, []api.Secret{} }, api.OK},
		{"the last time", func(c *api.Capture) { c.Packets[0].Time = api.MaxTime }, api.OK},
		{"a note", func(c *api.Capture) { c.Note = "n" }, api.ErrFit},
		{"a face's name", func(c *api.Capture) { c.Faces[0].Name = "n" }, api.ErrFit},
		{"two faces", func(c *api.Capture) { c.Faces = append(c.Faces, api.Face{}) }, api.ErrFit},
		{"a name", func(c *api.Capture) { c.Names = []api.Name{name([]byte{1}, "")} }, api.ErrFit},
		{"a secret", func(c *api.Capture) { c.Secrets = []api.Secret{secret("a", []byte{1})} }, api.ErrFit},
		{"a packet's note", func(c *api.Capture) { c.Packets[6].Note = "n" }, api.ErrFit},
		{"a packet of another face", func(c *api.Capture) { c.Faces = append(c.Faces, c.Faces[0]); c.Packets[6].Face = 1 }, api.ErrFit},
		{"a note, and too much data", func(c *api.Capture) { c.Note = "n"; c.Packets[6].Data = anyBytes(301) }, api.ErrArg},
		{"a note, and too many packets", func(c *api.Capture) { c.Note = "n"; c.Packets = slices.Repeat(c.Packets, 15) }, api.ErrLarge},
	} {
		in := simple()
		c.change(&in)
		for _, low := range []bool{false, true} {
			if b, e := capt.Write(in, true, low); e != c.want || (e == api.OK) != (len(b) > 0) {
				t.Errorf("%s: %x, %d", c.name, b, e)
			}
		}
		if b, e := capt.Write(in, false, false); c.want == api.ErrFit && (e != api.OK || len(b) == 0) {
			t.Errorf("%s, in blocks: %d", c.name, e)
		}
	}
}
