package capt_test

import (
	"encoding/binary"
	"math"
	"slices"
	"strings"
	"testing"

	"wireglass/api"
	"wireglass/capt"
)

// numbers makes files without the package's help.
type numbers interface {
	binary.AppendByteOrder
	binary.ByteOrder
}

func numbersOf(low bool) numbers {
	if low {
		return binary.LittleEndian
	}
	return binary.BigEndian
}

// twos and fours return numbers of 2 and 4 bytes.
func twos(o numbers, l ...int) []byte {
	var out []byte
	for _, v := range l {
		out = o.AppendUint16(out, uint16(v))
	}
	return out
}

func fours(o numbers, l ...int) []byte {
	var out []byte
	for _, v := range l {
		out = o.AppendUint32(out, uint32(v))
	}
	return out
}

// rawBlock returns a block whose body is not filled up.
func rawBlock(o numbers, kind int, body ...[]byte) []byte {
	all := slices.Concat(body...)
	size := fours(o, 12+len(all))
	return slices.Concat(fours(o, kind), size, all, size)
}

// zeros returns n bytes 0.
func zeros(n int) []byte {
	return make([]byte, n)
}

// sectionWith returns a section with options; faceWith, packetWith likewise.
func sectionWith(o numbers, options ...[]byte) []byte {
	return rawBlock(o, 0x0a0d0d0a, append([][]byte{fours(o, 0x1a2b3c4d), twos(o, 1, 0), {255, 255, 255, 255, 255, 255, 255, 255}}, options...)...)
}

func faceWith(o numbers, link, snap int, options ...[]byte) []byte {
	return rawBlock(o, 1, append([][]byte{twos(o, link, 0), fours(o, snap)}, options...)...)
}

// packetWith returns a packet of a face with 4 bytes of data.
func packetWith(o numbers, face, time int, options ...[]byte) []byte {
	return rawBlock(o, 6, append([][]byte{fours(o, face, time>>32, time, 4, 4), []byte("data")}, options...)...)
}

// optionOf returns an option, filled up.
func optionOf(o numbers, code int, value string) []byte {
	return slices.Concat(twos(o, code, len(value)), []byte(value), zeros((4-len(value)%4)%4))
}

func oldHeadOf(o numbers, snap, link int) []byte {
	return slices.Concat(fours(o, 0xa1b2c3d4), twos(o, 2, 4), fours(o, 0, 0, snap, link))
}

func recordOf(o numbers, seconds, micros, real int, data string) []byte {
	return append(fours(o, seconds, micros, len(data), real), data...)
}

func face(name string, link, snap int) api.Face {
	return api.Face{Name: name, Link: link, Snap: snap}
}

func name(address []byte, text string) api.Name {
	return api.Name{Address: address, Text: text}
}

func secret(label string, key []byte) api.Secret {
	return api.Secret{Label: label, Key: key}
}

func packet(time, face, real int, data []byte, note string) api.Packet {
	return api.Packet{Time: time, Face: face, Real: real, Data: data, Note: note}
}

// longText returns a text of n bytes that has all the bytes which a text may have, if n is great enough.
func longText(n int) string {
	var out strings.Builder
	for i := range n {
		out.WriteByte(byte(32 + i%95))
	}
	return out.String()
}

// anyBytes returns n bytes, among which are all.
func anyBytes(n int) []byte {
	out := make([]byte, n)
	for i := range out {
		out[i] = byte(255 - 7*i)
	}
	return out
}

// rich returns a capture that has something of everything, in all lengths modulo 4.
func rich() api.Capture {
	c := api.Capture{
		Note:  "a note",
		Faces: []api.Face{face("eth0", 1, 0), face("", 65535, 60), face("lo", 0, 400)},
		Names: []api.Name{name([]byte{10, 0, 0, 1}, "router"), name([]byte{1}, ""), name(anyBytes(16), "abc"), name(anyBytes(6), "h")},
		Secrets: []api.Secret{
			secret("a", []byte{0}), secret("label", anyBytes(32)), secret("la", []byte{1, 2}), secret("lab", anyBytes(200)),
		},
	}
	for i := range 12 {
		c.Packets = append(c.Packets, api.Packet{
			Time: i * 123456789012 % (api.MaxTime + 1), Face: i % 3, Real: 5*i + i%2*999000, Data: anyBytes(5 * i), Note: longText(i % 5),
		})
	}
	return c
}

// simple returns a capture that the old kind can have.
func simple() api.Capture {
	c := api.Capture{Faces: []api.Face{face("", 1, 300)}}
	for i := range 7 {
		c.Packets = append(c.Packets, api.Packet{Time: i * 1999999, Real: 50 * i, Data: anyBytes(49 * i)})
	}
	return c
}

// fullest returns the capture that needs the most bytes.
func fullest() api.Capture {
	c := api.Capture{Note: longText(api.MaxText)}
	for range api.MaxFaces {
		c.Faces = append(c.Faces, face(longText(api.MaxText), 65535, api.MaxPacket))
	}
	for range api.MaxRows {
		c.Names = append(c.Names, name(anyBytes(16), longText(api.MaxText)))
		c.Secrets = append(c.Secrets, secret(longText(api.MaxText), anyBytes(api.MaxText)))
	}
	for range api.MaxPackets {
		c.Packets = append(c.Packets, packet(api.MaxTime, api.MaxFaces-1, 1000000, anyBytes(api.MaxPacket), longText(api.MaxText)))
	}
	return c
}

// oldest returns the capture of the old kind that needs the most bytes.
func oldest() api.Capture {
	c := api.Capture{Faces: []api.Face{face("", 65535, 0)}}
	for i := range api.MaxPackets {
		c.Packets = append(c.Packets, packet(api.MaxTime-i, 0, 1000000, anyBytes(api.MaxPacket), ""))
	}
	return c
}

// bare returns the smallest capture.
func bare() api.Capture {
	return api.Capture{Faces: []api.Face{{}}}
}

// captures returns valid captures.
func captures() []api.Capture {
	noPackets, noTables := rich(), rich()
	noPackets.Packets = nil
	noTables.Names, noTables.Secrets = []api.Name{}, nil
	return []api.Capture{bare(), simple(), oldest(), rich(), noPackets, noTables, fullest()}
}

// invalid is a change that makes a capture like rich one that Validate refuses.
type invalid struct {
	name   string
	change func(c *api.Capture)
}

// tooLarge returns changes that make too much of something.
func tooLarge() []invalid {
	return []invalid{
		{"faces", func(c *api.Capture) { c.Faces = make([]api.Face, api.MaxFaces+1) }},
		{"names", func(c *api.Capture) { c.Names = slices.Repeat(c.Names[:1], api.MaxRows+1) }},
		{"secrets", func(c *api.Capture) { c.Secrets = slices.Repeat(c.Secrets[:1], api.MaxRows+1) }},
		{"packets", func(c *api.Capture) { c.Packets = slices.Repeat(c.Packets[:1], api.MaxPackets+1) }},
	}
}

// wrongs returns changes that make something else than it may be.
func wrongs() []invalid {
	long := longText(api.MaxText + 1)
	out := []invalid{
		{"no faces", func(c *api.Capture) { c.Faces, c.Packets = nil, nil }},
		{"a link below 0", func(c *api.Capture) { c.Faces[2].Link = -1 }},
		{"a link above", func(c *api.Capture) { c.Faces[2].Link = 65536 }},
		{"a snap below 0", func(c *api.Capture) { c.Faces[2].Snap = -1 }},
		{"a snap above", func(c *api.Capture) { c.Faces[2].Snap = api.MaxPacket + 1 }},
		{"no address", func(c *api.Capture) { c.Names[3].Address = nil }},
		{"a long address", func(c *api.Capture) { c.Names[3].Address = anyBytes(17) }},
		{"no label", func(c *api.Capture) { c.Secrets[3].Label = "" }},
		{"no key", func(c *api.Capture) { c.Secrets[3].Key = []byte{} }},
		{"a long key", func(c *api.Capture) { c.Secrets[3].Key = anyBytes(api.MaxText + 1) }},
		{"a face below 0", func(c *api.Capture) { c.Packets[11].Face = -1 }},
		{"a face that is none", func(c *api.Capture) { c.Packets[11].Face = 3 }},
		{"a face far away", func(c *api.Capture) { c.Packets[11].Face = math.MinInt }},
		{"a time below 0", func(c *api.Capture) { c.Packets[11].Time = -1 }},
		{"a time above", func(c *api.Capture) { c.Packets[11].Time = api.MaxTime + 1 }},
		{"less than kept", func(c *api.Capture) { c.Packets[11].Real = 54 }},
		{"a size above", func(c *api.Capture) { c.Packets[11].Real = 1000001 }},
		{"a size below 0", func(c *api.Capture) { c.Packets[0].Real = -1 }},
		{"more than a snap", func(c *api.Capture) { c.Packets[10].Data, c.Packets[10].Real = anyBytes(61), 61 }},
		{"more than a packet", func(c *api.Capture) { c.Packets[9].Data, c.Packets[9].Real = anyBytes(401), 401 }},
		{"more than a packet, with a snap", func(c *api.Capture) { c.Packets[11].Data, c.Packets[11].Real = anyBytes(401), 401 }},
	}
	for _, text := range []string{long, "\x1f", "\x7f", "a\x00", "\n", "\x80", "é", long + "\n"} {
		out = append(out,
			invalid{"a note", func(c *api.Capture) { c.Note = text }},
			invalid{"a face's name", func(c *api.Capture) { c.Faces[1].Name = text }},
			invalid{"a name", func(c *api.Capture) { c.Names[3].Text = text }},
			invalid{"a label", func(c *api.Capture) { c.Secrets[3].Label = text }},
			invalid{"a packet's note", func(c *api.Capture) { c.Packets[11].Note = text }})
	}
	return out
}

func TestMadeCapturesAreValid(t *testing.T) {
	for i, c := range captures() {
		if e := capt.Validate(c); e != api.OK {
			t.Errorf("capture %d: %d", i, e)
		}
	}
}
