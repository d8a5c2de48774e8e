package capt

import (
	"slices"

	"wireglass/api"
)

// What stands in files of the old kind.
const (
	oldMark    = 0xa1b2c3d4
	oldMajor   = 2
	oldMinor   = 4
	oldHead    = 24              // bytes of the head
	recordHead = 16              // bytes of a record before its data
	perSecond  = 1000000         // microseconds
	oldTimes   = perSecond << 32 // the first time that is too great
)

// What stands in files of blocks.
const (
	sectionBlock = 0x0a0d0d0a
	faceBlock    = 1
	nameBlock    = 4
	packetBlock  = 6
	secretBlock  = 10
	sectionMark  = 0x1a2b3c4d
	sectionMajor = 1
	sectionMinor = 0
	sectionHead  = 16 // bytes of a section's body before its options; likewise the next two
	faceHead     = 8
	packetHead   = 20
	pairHead     = 4  // bytes of the body of a name or a secret before its two parts
	blockHead    = 8  // bytes of a block before its body
	blockBytes   = 12 // bytes of a block without a body
	optionHead   = 4  // bytes of an option before its value; those of the end of options
	noteOption   = 1
	nameOption   = 2
)

// Write returns the file of a capture, of the old kind or of blocks, with the lowest byte of numbers first or last.
func Write(c api.Capture, old, low bool) ([]byte, api.Errno) {
	if e := Validate(c); e != api.OK {
		return nil, e
	}
	if !old {
		return writeBlocks(c, orderOf(low)), api.OK
	}
	if !Same(c, plain(c)) {
		return nil, api.ErrFit
	}
	return writeOld(c, orderOf(low)), api.OK
}

func writeOld(c api.Capture, o order) []byte {
	f := c.Faces[0]
	out := add(oldBegin(o), o, 4, f.Snap, f.Link)
	for _, p := range c.Packets {
		out = add(out, o, 4, p.Time/perSecond, p.Time%perSecond, len(p.Data), p.Real)
		out = append(out, p.Data...)
	}
	return out
}

func writeBlocks(c api.Capture, o order) []byte {
	out := addBlock(nil, o, sectionBlock, addOption(sectionBegin(o), o, noteOption, c.Note))
	for _, f := range c.Faces {
		out = addBlock(out, o, faceBlock, faceBody(f, o))
	}
	for _, n := range c.Names {
		out = addBlock(out, o, nameBlock, pairBody(n.Address, []byte(n.Text), o))
	}
	for _, s := range c.Secrets {
		out = addBlock(out, o, secretBlock, pairBody([]byte(s.Label), s.Key, o))
	}
	for _, p := range c.Packets {
		out = addBlock(out, o, packetBlock, packetBody(p, o))
	}
	return out
}

// oldBegin returns the bytes with which each head of the old kind begins, all but what it says of the face.
func oldBegin(o order) []byte {
	out := add(nil, o, 4, oldMark)
	out = add(out, o, 2, oldMajor, oldMinor)
	return add(out, o, 4, 0, 0)
}

// sectionBegin returns the bytes with which the body of each section begins, all but its options.
func sectionBegin(o order) []byte {
	out := add(nil, o, 4, sectionMark)
	out = add(out, o, 2, sectionMajor, sectionMinor)
	return append(out, slices.Repeat([]byte{0xff}, 8)...)
}

func faceBody(f api.Face, o order) []byte {
	out := add(nil, o, 2, f.Link, 0)
	out = add(out, o, 4, f.Snap)
	return addOption(out, o, nameOption, f.Name)
}

func packetBody(p api.Packet, o order) []byte {
	out := add(nil, o, 4, p.Face, p.Time>>32, p.Time, len(p.Data), p.Real)
	out = fill(append(out, p.Data...))
	return addOption(out, o, noteOption, p.Note)
}

// pairBody returns the body of a name or of a secret.
func pairBody(first, second []byte, o order) []byte {
	return append(append(add(nil, o, 2, len(first), len(second)), first...), second...)
}

// addBlock appends a block with a body that may not be filled up yet.
func addBlock(out []byte, o order, kind int, body []byte) []byte {
	body = fill(body)
	size := blockBytes + len(body)
	out = append(add(out, o, 4, kind, size), body...)
	return add(out, o, 4, size)
}

// addOption appends an option and the end of options, or nothing for an empty text.
func addOption(out []byte, o order, code int, text string) []byte {
	if text == "" {
		return out
	}
	out = add(out, o, 2, code, len(text))
	out = fill(append(out, text...))
	return add(out, o, 2, 0, 0)
}

// add appends numbers of some bytes each.
func add(out []byte, o order, size int, numbers ...int) []byte {
	for _, v := range numbers {
		out = append(out, make([]byte, size)...)
		o.put(out[len(out)-size:], v)
	}
	return out
}

// fill fills up bytes, which begin a body, by 0.
func fill(b []byte) []byte {
	return append(b, make([]byte, padding(len(b)))...)
}

// padding returns how many bytes n ones lack of a multiple of 4.
func padding(n int) int {
	return (4 - n%4) % 4
}
