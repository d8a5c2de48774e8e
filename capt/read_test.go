package capt_test

import (
	"bytes"
	"slices"
	"testing"

	"wireglass/api"
	"wireglass/capt"
)

// broken asks Read, and Blocks if it is to tell so too, of a file that is broken.
func broken(t *testing.T, name string, b []byte, blocksToo bool) {
	t.Helper()
	if c, torn, e := capt.Read(b); !capt.Same(c, api.Capture{}) || torn != 0 || e != api.ErrBroken {
		t.Errorf("Read, %s: %v, %d, %d", name, c, torn, e)
	}
	l, torn, e := capt.Blocks(b)
	if blocksToo && (len(l) != 0 || torn != 0 || e != api.ErrBroken) {
		t.Errorf("Blocks, %s: %v, %d, %d", name, l, torn, e)
	}
	if !blocksToo && (len(l) == 0 || e != api.OK) {
		t.Errorf("Blocks, %s: %v, %d, %d", name, l, torn, e)
	}
}

// reads asks whether a file is that of a capture, with some torn bytes.
func reads(t *testing.T, name string, b []byte, want api.Capture, wantTorn int) {
	t.Helper()
	if c, torn, e := capt.Read(b); e != api.OK || torn != wantTorn || !capt.Same(c, want) {
		t.Errorf("Read, %s: %v, %d, %d", name, c, torn, e)
	}
	if l, torn, e := capt.Blocks(b); e != api.OK || torn != wantTorn || len(l) == 0 {
		t.Errorf("Blocks, %s: %v, %d, %d", name, l, torn, e)
	}
}

func TestReadOfWriteIsTheCapture(t *testing.T) {
	for i, c := range captures() {
		for way := range 4 {
			old, low := way&1 == 1, way&2 == 2
			b, e := capt.Write(c, old, low)
			if e == api.ErrFit && old {
				continue
			}
			out, torn, e := capt.Read(b)
			if e != api.OK || torn != 0 || !capt.Same(out, c) {
				t.Errorf("capture %d, way %d: %d torn, %d", i, way, torn, e)
			}
			if isOld, isLow, e := capt.Kind(b); isOld != old || isLow != low || e != api.OK {
				t.Errorf("Kind of capture %d, way %d: %v, %v, %d", i, way, isOld, isLow, e)
			}
		}
	}
}

// firstBlocks returns the capture of the first n blocks of its file.
func firstBlocks(c api.Capture, n int) api.Capture {
	n -= 1 + len(c.Faces)
	names := min(n, len(c.Names))
	secrets := min(n-names, len(c.Secrets))
	c.Names, c.Secrets, c.Packets = c.Names[:names], c.Secrets[:secrets], c.Packets[:n-names-secrets]
	return c
}

func TestReadOfBlocksWithTheirLastBytesCutOff(t *testing.T) {
	for way := range 2 {
		c := rich()
		b, _ := capt.Write(c, false, way == 1)
		all, _, _ := capt.Blocks(b)
		least := all[len(c.Faces)]
		for size := range b {
			whole := 0
			for whole < len(all) && all[whole][1]+all[whole][2] <= size {
				whole++
			}
			switch {
			case whole < 2: // no interface
				if _, _, e := capt.Read(b[:size]); e != api.ErrBroken {
					t.Fatalf("Read of %d bytes: %d", size, e)
				}
			case size >= least[1]+least[2]:
				last := all[whole-1]
				reads(t, "cut off", b[:size], firstBlocks(c, whole), size-last[1]-last[2])
			}
			l, torn, e := capt.Blocks(b[:size])
			if whole > 0 && (e != api.OK || !slices.Equal(l, all[:whole]) || torn != size-all[whole-1][1]-all[whole-1][2]) {
				t.Fatalf("Blocks of %d bytes: %v, %d, %d", size, l, torn, e)
			}
			if whole == 0 && (e != api.ErrBroken || len(l) != 0 || torn != 0) {
				t.Fatalf("Blocks of %d bytes: %v, %d, %d", size, l, torn, e)
			}
		}
	}
}

func TestReadOfTheOldKindWithItsLastBytesCutOff(t *testing.T) {
	for way := range 2 {
		c := simple()
		b, _ := capt.Write(c, true, way == 1)
		for size := range b {
			if size < 24 {
				broken(t, "no whole head", b[:size], true)
				continue
			}
			want, end := c, 24
			want.Packets = nil
			for _, p := range c.Packets {
				if end+16+len(p.Data) > size {
					break
				}
				want.Packets = append(want.Packets, p)
				end += 16 + len(p.Data)
			}
			reads(t, "cut off", b[:size], want, size-end)
		}
	}
}

func TestKind(t *testing.T) {
	for _, low := range []bool{false, true} {
		o := numbersOf(low)
		old, blocks := fours(o, 0xa1b2c3d4), fours(o, 0x0a0d0d0a, 28, 0x1a2b3c4d)
		for _, behind := range [][]byte{nil, {1}, anyBytes(100), anyBytes(api.MaxFile)} {
			if isOld, isLow, e := capt.Kind(append(bytes.Clone(old), behind...)); !isOld || isLow != low || e != api.OK {
				t.Errorf("Kind of an old file: %v, %v, %d", isOld, isLow, e)
			}
			if isOld, isLow, e := capt.Kind(append(bytes.Clone(blocks), behind...)); isOld || isLow != low || e != api.OK {
				t.Errorf("Kind of blocks: %v, %v, %d", isOld, isLow, e)
			}
		}
		for _, b := range [][]byte{
			nil, old[:3], blocks[:11], blocks[:4],
			fours(o, 0xa1b2c3d5, 0, 0), fours(o, 0xa1b23c4d, 0, 0), fours(o, 0xb2a1d4c3, 0, 0),
			fours(o, 0x0a0d0d0b, 28, 0x1a2b3c4d), fours(o, 0x0a0d0d0a, 28, 0x1a2b3c4e), fours(o, 0x0a0d0d0a, 28, 0x2b1a4d3c),
			fours(o, 0x0d0a0a0d, 28, 0x1a2b3c4d), fours(o, 1, 28, 0x1a2b3c4d),
			append([]byte{0}, old...), append([]byte{0}, blocks...),
		} {
			if isOld, isLow, e := capt.Kind(b); isOld || isLow || e != api.ErrBroken {
				t.Errorf("Kind of %x: %v, %v, %d", b, isOld, isLow, e)
			}
			broken(t, "no such first bytes", b, true)
		}
	}
}

func TestBlocks(t *testing.T) {
	for _, low := range []bool{false, true} {
		o := numbersOf(low)
		c := api.Capture{Faces: []api.Face{{}}, Packets: []api.Packet{packet(1, 0, 3, []byte("abc"), ""), packet(2, 0, 0, nil, "")}}
		b, _ := capt.Write(c, true, low)
		want := [][3]int{{-2, 0, 24}, {-1, 24, 19}, {-1, 43, 16}}
		if l, torn, e := capt.Blocks(append(b, 0, 0)); e != api.OK || torn != 2 || !slices.Equal(l, want) {
			t.Errorf("Blocks of an old file: %v, %d, %d", l, torn, e)
		}
		b = slices.Concat(sectionWith(o), faceWith(o, 1, 0), rawBlock(o, 0xfffffffe, []byte("any.")), packetWith(o, 0, 1), []byte{0, 0, 0})
		want = [][3]int{{0x0a0d0d0a, 0, 28}, {1, 28, 20}, {0xfffffffe, 48, 16}, {6, 64, 36}}
		if l, torn, e := capt.Blocks(b); e != api.OK || torn != 3 || !slices.Equal(l, want) {
			t.Errorf("Blocks: %v, %d, %d", l, torn, e)
		}
	}
}

func TestReadPassesOverOtherBlocks(t *testing.T) {
	for _, low := range []bool{false, true} {
		o := numbersOf(low)
		var b []byte
		for _, kind := range []int{0, 2, 3, 5, 7, 8, 9, 11, 0x0a0d0d0b, 0xffffffff} {
			b = slices.Concat(b, rawBlock(o, kind), rawBlock(o, kind, anyBytes(4)), rawBlock(o, kind, zeros(8)))
		}
		want := api.Capture{Faces: []api.Face{face("", 1, 0)}, Packets: []api.Packet{packet(9, 0, 4, []byte("data"), "")}}
		reads(t, "other blocks", slices.Concat(sectionWith(o), b, faceWith(o, 1, 0), b, packetWith(o, 0, 9), b), want, 0)
	}
}

func TestReadTakesBlocksInAnyOrder(t *testing.T) {
	for _, low := range []bool{false, true} {
		o := numbersOf(low)
		key := rawBlock(o, 10, twos(o, 1, 2), []byte("k\xff\x00\x00"))
		host := rawBlock(o, 4, twos(o, 1, 2), []byte("\x01me\x00"))
		want := api.Capture{
			Faces:   []api.Face{face("", 1, 0), face("late", 2, 9)},
			Names:   []api.Name{name([]byte{1}, "me")},
			Secrets: []api.Secret{secret("k", []byte{255, 0})},
			Packets: []api.Packet{packet(9, 0, 4, []byte("data"), ""), packet(7, 1, 4, []byte("data"), "")},
		}
		late := faceWith(o, 2, 9, optionOf(o, 2, "late"), zeros(4))
		reads(t, "an interface behind packets of others",
			slices.Concat(sectionWith(o), faceWith(o, 1, 0), packetWith(o, 0, 9), late, packetWith(o, 1, 7), key, host), want, 0)
		reads(t, "tables first",
			slices.Concat(sectionWith(o), key, host, faceWith(o, 1, 0), packetWith(o, 0, 9), late, packetWith(o, 1, 7)), want, 0)
	}
}

func TestReadOptions(t *testing.T) {
	for _, low := range []bool{false, true} {
		o := numbersOf(low)
		end := zeros(4)
		for _, c := range []struct {
			name  string
			bytes [][]byte
			want  string
		}{
			{"none", nil, ""},
			{"one", [][]byte{optionOf(o, 1, "one"), end}, "one"},
			{"an empty one", [][]byte{optionOf(o, 1, ""), end}, ""},
			{"of a multiple of 4", [][]byte{optionOf(o, 1, "four"), end}, "four"},
			{"others", [][]byte{optionOf(o, 3, "\x00\xff"), optionOf(o, 1, "one"), optionOf(o, 0xffff, ""), optionOf(o, 4, "x"), end}, "one"},
			{"others alone", [][]byte{optionOf(o, 3, "abc"), end}, ""},
			{"of the code 0 with a value", [][]byte{optionOf(o, 0, "abc"), optionOf(o, 1, "one"), end}, "one"},
			{"two of a code", [][]byte{optionOf(o, 1, "one"), optionOf(o, 1, "last"), end}, "last"},
			{"two of a code, others between", [][]byte{optionOf(o, 1, "one"), optionOf(o, 9, "x"), optionOf(o, 1, "last"), optionOf(o, 9, ""), end}, "last"},
			{"the last one empty", [][]byte{optionOf(o, 1, "one"), optionOf(o, 1, ""), end}, ""},
			{"the first one no text", [][]byte{optionOf(o, 1, "\n"), optionOf(o, 1, "ok"), end}, "ok"},
			{"a name's option", [][]byte{optionOf(o, 1, "one"), optionOf(o, 2, "\n"), end}, "one"},
		} {
			want := api.Capture{Faces: []api.Face{face("", 1, 0)}, Packets: []api.Packet{packet(9, 0, 4, []byte("data"), c.want)}}
			reads(t, c.name, slices.Concat(sectionWith(o), faceWith(o, 1, 0), packetWith(o, 0, 9, c.bytes...)), want, 0)
			want.Note, want.Packets = c.want, nil
			reads(t, c.name, slices.Concat(sectionWith(o, c.bytes...), faceWith(o, 1, 0)), want, 0)
		}
		b := slices.Concat(sectionWith(o), faceWith(o, 1, 0, optionOf(o, 2, "first"), optionOf(o, 1, "\n"), optionOf(o, 2, "name"), optionOf(o, 0, "x"), end))
		reads(t, "an interface", b, api.Capture{Faces: []api.Face{face("name", 1, 0)}}, 0)
	}
}

func TestReadOptionsThatAreNotRight(t *testing.T) {
	for _, low := range []bool{false, true} {
		o := numbersOf(low)
		end := zeros(4)
		for _, c := range []struct {
			name  string
			bytes [][]byte
		}{
			{"no end", [][]byte{optionOf(o, 1, "one")}},
			{"no end behind others", [][]byte{optionOf(o, 3, "one"), optionOf(o, 3, "")}},
			{"an end without options", [][]byte{end}},
			{"two ends", [][]byte{optionOf(o, 1, "one"), end, end}},
			{"something behind the end", [][]byte{optionOf(o, 1, "one"), end, optionOf(o, 1, "two"), end}},
			{"an end with a value", [][]byte{optionOf(o, 1, "one"), optionOf(o, 0, "abcd")}},
			{"a value beyond the block", [][]byte{twos(o, 1, 9), zeros(8)}},
			{"a value far beyond", [][]byte{twos(o, 1, 65535), zeros(8)}},
			{"a value to the end", [][]byte{twos(o, 1, 8), zeros(8)}},
			{"padding that is not 0", [][]byte{twos(o, 1, 3), []byte("one\x01"), end}},
			{"the first padding of three", [][]byte{twos(o, 1, 1), []byte("o\x01\x00\x00"), end}},
			{"the last padding of three", [][]byte{twos(o, 1, 1), []byte("o\x00\x00\x80"), end}},
			{"another one's padding", [][]byte{twos(o, 9, 2), []byte("on\x00 "), end}},
			{"an end of more bits", [][]byte{optionOf(o, 1, "one"), twos(o, 0, 1)}},
		} {
			broken(t, c.name+" of a section", slices.Concat(sectionWith(o, c.bytes...), faceWith(o, 1, 0)), true)
			broken(t, c.name+" of an interface", slices.Concat(sectionWith(o), faceWith(o, 1, 0, c.bytes...)), true)
			broken(t, c.name+" of a packet", slices.Concat(sectionWith(o), faceWith(o, 1, 0), packetWith(o, 0, 9, c.bytes...)), true)
		}
	}
}

func TestReadBlocksThatAreNotRight(t *testing.T) {
	for _, low := range []bool{false, true} {
		o := numbersOf(low)
		begin := slices.Concat(sectionWith(o), faceWith(o, 1, 0))
		told := func(first, last int, body int) []byte { // a block whose lengths may be wrong
			return slices.Concat(fours(o, 77, first), zeros(body), fours(o, last))
		}
		head := func(data, real int) []byte { return fours(o, 0, 0, 9, data, real) }
		for _, c := range []struct {
			name  string
			bytes []byte
		}{
			{"a length of 0", told(0, 0, 0)},
			{"a length of 8", told(8, 8, 0)},
			{"a length of 11", told(11, 11, 0)},
			{"a length of 13", told(13, 13, 1)},
			{"a length of 14", told(14, 14, 2)},
			{"a length of 15", told(15, 15, 3)},
			{"a length of 13 in 8 bytes", fours(o, 77, 13)},
			{"a great length of no multiple of 4", fours(o, 77, 0xffffffff)},
			{"another length at the end", told(16, 12, 4)},
			{"another length of nothing", told(12, 16, 0)},
			{"0 at the end", told(20, 0, 8)},
			{"a second section", sectionWith(o)},
			{"a second section that is none", rawBlock(o, 0x0a0d0d0a)},
			{"an interface without a body", rawBlock(o, 1)},
			{"an interface without a snap", rawBlock(o, 1, twos(o, 1, 0))},
			{"an interface with another number than 0", rawBlock(o, 1, twos(o, 1, 1), fours(o, 0))},
			{"a packet without a body", rawBlock(o, 6)},
			{"a packet's head but 4 bytes", rawBlock(o, 6, fours(o, 0, 0, 9, 0))},
			{"a packet without its data", rawBlock(o, 6, head(4, 4))},
			{"a packet without all its data", rawBlock(o, 6, head(9, 9), anyBytes(8))},
			{"a packet of no end", rawBlock(o, 6, head(0xffffffff, 4), anyBytes(4))},
			{"a packet of almost no end", rawBlock(o, 6, head(0xfffffffc, 4), anyBytes(4))},
			{"a packet with more than its data", rawBlock(o, 6, head(1, 1), zeros(8))},
			{"a packet with padding", rawBlock(o, 6, head(1, 1), []byte{1, 0, 0, 1})},
			{"a packet with other padding", rawBlock(o, 6, head(3, 3), []byte{1, 1, 1, 128})},
			{"a name without a body", rawBlock(o, 4)},
			{"a name without all its bytes", rawBlock(o, 4, twos(o, 1, 4), []byte("\x01abc"))},
			{"a name of great lengths", rawBlock(o, 4, twos(o, 65535, 65535), []byte("\x01abc"))},
			{"a name of a great text", rawBlock(o, 4, twos(o, 1, 65535), []byte("\x01abc"))},
			{"a name with more bytes", rawBlock(o, 4, twos(o, 1, 3), []byte("\x01abc"), zeros(4))},
			{"a name with fewer bytes", rawBlock(o, 4, twos(o, 1, 3))},
			{"a name with padding", rawBlock(o, 4, twos(o, 1, 1), []byte("\x01a\x00\x01"))},
			{"a secret without a body", rawBlock(o, 10)},
			{"a secret without all its bytes", rawBlock(o, 10, twos(o, 1, 4), []byte("labc"))},
			{"a secret with more bytes", rawBlock(o, 10, twos(o, 1, 3), []byte("labc"), zeros(4))},
			{"a secret with padding", rawBlock(o, 10, twos(o, 1, 2), []byte("lab\x01"))},
		} {
			broken(t, c.name, slices.Concat(begin, c.bytes), true)
			broken(t, c.name+", others behind", slices.Concat(begin, c.bytes, packetWith(o, 0, 9)), true)
		}
	}
}

func TestReadHeadsThatAreNotRight(t *testing.T) {
	for _, low := range []bool{false, true} {
		o := numbersOf(low)
		section := sectionWith(o)
		for i := range section[:24] { // its type, lengths, number, version and the eight bytes
			for _, bit := range []byte{1, 128} {
				b := slices.Concat(section, faceWith(o, 1, 0))
				b[i] ^= bit
				broken(t, "a section", b, true)
			}
		}
		for _, first := range [][]byte{
			rawBlock(o, 0x0a0d0d0a), rawBlock(o, 0x0a0d0d0a, fours(o, 0x1a2b3c4d)),
			rawBlock(o, 0x0a0d0d0a, fours(o, 0x1a2b3c4d), twos(o, 1, 0), bytes.Repeat([]byte{255}, 4)),
			faceWith(o, 1, 0), rawBlock(o, 77), section[:27], section[:26],
		} {
			broken(t, "no section", first, true)
			broken(t, "no section in front", slices.Concat(first, faceWith(o, 1, 0), section), true)
		}
		for i := range 16 { // all of the old head but what it says of the face
			b := oldHeadOf(o, 0, 1)
			b[i] ^= 1
			broken(t, "an old head", b, true)
		}
	}
}

func TestReadRefusesWhatValidateRefuses(t *testing.T) {
	for _, low := range []bool{false, true} {
		o := numbersOf(low)
		begin := slices.Concat(sectionWith(o), faceWith(o, 1, 0))
		broken(t, "no interface", sectionWith(o), false)
		broken(t, "too many interfaces", slices.Concat(begin, bytes.Repeat(faceWith(o, 1, 0), 4)), false)
		broken(t, "too many packets", slices.Concat(begin, bytes.Repeat(packetWith(o, 0, 9), 101)), false)
		broken(t, "a face that is none", slices.Concat(begin, packetWith(o, 1, 9)), false)
		broken(t, "a face that is torn", slices.Concat(begin, packetWith(o, 1, 9), faceWith(o, 1, 0)[:19]), false)
		broken(t, "a time that is too great", slices.Concat(begin, packetWith(o, 0, api.MaxTime+1)), false)
		broken(t, "a time of 64 bits", slices.Concat(begin, packetWith(o, 0, -1)), false)
		broken(t, "a time of the highest bit", slices.Concat(begin, packetWith(o, 0, -1<<63)), false)
		broken(t, "a great face", slices.Concat(begin, packetWith(o, 0xffffffff, 9)), false)
		broken(t, "a note", slices.Concat(begin, packetWith(o, 0, 9, optionOf(o, 1, "\n"), zeros(4))), false)
		broken(t, "a snap", slices.Concat(begin, faceWith(o, 1, 401)), false)
		broken(t, "data beyond a snap", slices.Concat(sectionWith(o), faceWith(o, 1, 3), packetWith(o, 0, 9)), false)
		broken(t, "no address", slices.Concat(begin, rawBlock(o, 4, twos(o, 0, 0))), false)
		broken(t, "no label", slices.Concat(begin, rawBlock(o, 10, twos(o, 0, 4), zeros(4))), false)
		broken(t, "no key", slices.Concat(begin, rawBlock(o, 10, twos(o, 4, 0), []byte("abcd"))), false)
		broken(t, "less than kept", slices.Concat(begin, rawBlock(o, 6, fours(o, 0, 0, 9, 4, 3), zeros(4))), false)

		broken(t, "an old snap", oldHeadOf(o, 401, 1), false)
		broken(t, "an old link", oldHeadOf(o, 0, 65536), false)
		broken(t, "an old time", slices.Concat(oldHeadOf(o, 0, 1), recordOf(o, 1000000000, 1, 4, "data")), false)
		broken(t, "old microseconds", slices.Concat(oldHeadOf(o, 0, 1), recordOf(o, 999999999, 1000001, 4, "data")), false)
		broken(t, "less than kept of the old kind", slices.Concat(oldHeadOf(o, 0, 1), recordOf(o, 1, 1, 3, "data")), false)
		broken(t, "old data beyond a snap", slices.Concat(oldHeadOf(o, 3, 1), recordOf(o, 1, 1, 4, "data")), false)
		broken(t, "old data", slices.Concat(oldHeadOf(o, 0, 1), recordOf(o, 1, 1, 401, longText(401))), false)
		broken(t, "too many old packets", slices.Concat(oldHeadOf(o, 0, 1), bytes.Repeat(recordOf(o, 1, 1, 4, "data"), 101)), false)
	}
}

func TestReadOldTimes(t *testing.T) {
	for _, low := range []bool{false, true} {
		o := numbersOf(low)
		for _, c := range []struct{ seconds, micros, want int }{
			{0, 0, 0}, {0, 999999, 999999}, {3, 7, 3000007}, {1000000000, 0, api.MaxTime},
			{1, 1000001, 2000001}, {0, 0xffffffff, 0xffffffff}, // no error is told for more microseconds than a second has
		} {
			want := api.Capture{Faces: []api.Face{face("", 7, 5)}, Packets: []api.Packet{packet(c.want, 0, 9, []byte("data"), "")}}
			reads(t, "an old time", slices.Concat(oldHeadOf(o, 5, 7), recordOf(o, c.seconds, c.micros, 9, "data")), want, 0)
		}
	}
}

func TestReadTornBytes(t *testing.T) {
	for _, low := range []bool{false, true} {
		o := numbersOf(low)
		begin := slices.Concat(sectionWith(o), faceWith(o, 1, 0))
		want := api.Capture{Faces: []api.Face{face("", 1, 0)}}
		for _, torn := range [][]byte{
			{0}, {0, 0, 0, 77}, zeros(7), fours(o, 77, 12), fours(o, 77, 16, 16), fours(o, 77, 0xfffffffc, 3, 4),
			sectionWith(o)[:27], sectionWith(o)[:3], rawBlock(o, 6)[:11],
		} {
			reads(t, "a torn block", slices.Concat(begin, torn), want, len(torn))
		}
		for _, torn := range [][]byte{
			{0}, zeros(15), recordOf(o, 1, 1, 4, "data")[:19], fours(o, 1, 1, 0xffffffff, 0), fours(o, 1, 1, 1, 1),
		} {
			reads(t, "a torn record", slices.Concat(oldHeadOf(o, 0, 1), torn), want, len(torn))
		}
		two := slices.Concat(begin, packetWith(o, 0, 1), packetWith(o, 0, 2))
		want.Packets = []api.Packet{packet(1, 0, 4, []byte("data"), ""), packet(2, 0, 4, []byte("data"), "")}
		reads(t, "the third packet is torn", slices.Concat(two, packetWith(o, 0, 3)[:20]), want, 20)
	}
}

func TestReadOfTheGreatestFile(t *testing.T) {
	for _, low := range []bool{false, true} {
		o := numbersOf(low)
		begin := slices.Concat(sectionWith(o), faceWith(o, 1, 0))
		b := slices.Concat(begin, rawBlock(o, 77, zeros(api.MaxFile-len(begin)-12)))
		reads(t, "MaxFile bytes", b, api.Capture{Faces: []api.Face{face("", 1, 0)}}, 0)
		many := slices.Concat(begin, bytes.Repeat(rawBlock(o, 77), (api.MaxFile-len(begin))/12))
		reads(t, "many blocks", many, api.Capture{Faces: []api.Face{face("", 1, 0)}}, 0)
		old := slices.Concat(oldHeadOf(o, 0, 1), fours(o, 1, 1, api.MaxFile, 1), zeros(api.MaxFile-40))
		reads(t, "MaxFile bytes of the old kind", old, api.Capture{Faces: []api.Face{face("", 1, 0)}}, api.MaxFile-24)
		for _, b := range [][]byte{append(b, 0), append(old, 0), zeros(api.MaxFile + 1), append(zeros(3*api.MaxFile), b...)} {
			if c, torn, e := capt.Read(b); !capt.Same(c, api.Capture{}) || torn != 0 || e != api.ErrLarge {
				t.Errorf("Read of %d bytes: %v, %d, %d", len(b), c, torn, e)
			}
			if l, torn, e := capt.Blocks(b); len(l) != 0 || torn != 0 || e != api.ErrLarge {
				t.Errorf("Blocks of %d bytes: %v, %d, %d", len(b), l, torn, e)
			}
		}
		broken(t, "MaxFile bytes of nothing", zeros(api.MaxFile), true)
	}
}

// Whatever stands in a file: what Read makes of it is a capture, which is read back as it is.
func TestReadOfChangedFiles(t *testing.T) {
	for _, whole := range [][]byte{made(rich(), false), made(rich(), true), madeOld(simple(), false), madeOld(simple(), true)} {
		for i := range whole {
			for _, x := range []byte{0, 1, 4, 127, 128, 255, whole[i] + 1, whole[i] ^ 4} {
				b := bytes.Clone(whole)
				b[i] = x
				c, torn, e := capt.Read(b)
				if e != api.OK {
					if e != api.ErrBroken || torn != 0 || !capt.Same(c, api.Capture{}) {
						t.Fatalf("Read with %d at %d: %v, %d, %d", x, i, c, torn, e)
					}
					continue
				}
				again, e := capt.Write(c, false, true)
				if e != api.OK {
					t.Fatalf("Write of what was read with %d at %d: %d", x, i, e)
				}
				if out, torn, e := capt.Read(again); e != api.OK || torn != 0 || !capt.Same(out, c) {
					t.Fatalf("Read with %d at %d, written again: %d, %d", x, i, torn, e)
				}
				if l, also, e := capt.Blocks(b); e != api.OK || also != torn || len(l) == 0 {
					t.Fatalf("Blocks with %d at %d: %v, %d, %d", x, i, l, also, e)
				}
			}
		}
	}
}
