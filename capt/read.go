package capt

import (
	"bytes"

	"wireglass/api"
)

// The types that Blocks tells of the old kind, whose parts have none.
const (
	recordType = -1
	headType   = -2
)

// Read returns the capture of a file, and how many bytes at its end are torn.
func Read(b []byte) (api.Capture, int, api.Errno) {
	r, e := parse(b)
	if e != api.OK {
		return api.Capture{}, 0, e
	}
	if Validate(r.c) != api.OK {
		return api.Capture{}, 0, api.ErrBroken
	}
	return r.c, r.torn, api.OK
}

// Kind returns whether a file is of the old kind, and whether the lowest byte of its numbers comes first.
func Kind(b []byte) (bool, bool, api.Errno) {
	for _, low := range []bool{false, true} {
		o := orderOf(low)
		if len(b) >= 4 && o.get(b[:4]) == oldMark {
			return true, low, api.OK
		}
		if len(b) >= 12 && o.get(b[:4]) == sectionBlock && o.get(b[8:12]) == sectionMark {
			return false, low, api.OK
		}
	}
	return false, false, api.ErrBroken
}

// Blocks returns type, place and length of each whole block or record of a file, and how many bytes at its end are torn.
func Blocks(b []byte) ([][3]int, int, api.Errno) {
	r, e := parse(b)
	return r.parts, r.torn, e
}

// reading is what is read of a file so far.
type reading struct {
	o     order
	c     api.Capture
	parts [][3]int // as Blocks returns them
	torn  int
}

// parse reads a file; whether its capture is valid is not asked.
func parse(b []byte) (reading, api.Errno) {
	if len(b) > api.MaxFile {
		return reading{}, api.ErrLarge
	}
	old, low, e := Kind(b)
	if e != api.OK {
		return reading{}, e
	}
	r := reading{o: orderOf(low)}
	if old && !r.records(b) || !old && !r.blocks(b) {
		return reading{}, api.ErrBroken
	}
	return r, api.OK
}

// records reads a file of the old kind, and tells whether it is right.
func (r *reading) records(b []byte) bool {
	if len(b) < oldHead || !bytes.HasPrefix(b, oldBegin(r.o)) {
		return false
	}
	r.c.Faces = []api.Face{{Snap: r.o.get(b[16:20]), Link: r.o.get(b[20:oldHead])}}
	r.parts = append(r.parts, [3]int{headType, 0, oldHead})
	at := oldHead
	for len(b)-at >= recordHead {
		size := recordHead + r.o.get(b[at+8:at+12])
		if size > len(b)-at {
			break
		}
		r.record(b[at : at+size])
		r.parts = append(r.parts, [3]int{recordType, at, size})
		at += size
	}
	r.torn = len(b) - at
	return true
}

// record reads a whole record of the old kind.
func (r *reading) record(b []byte) {
	r.c.Packets = append(r.c.Packets, api.Packet{
		Time: r.o.get(b[:4])*perSecond + r.o.get(b[4:8]),
		Real: r.o.get(b[12:recordHead]),
		Data: bytes.Clone(b[recordHead:]),
	})
}

// blocks reads a file of blocks, and tells whether it is right.
func (r *reading) blocks(b []byte) bool {
	at := 0
	for len(b)-at >= blockHead {
		kind, size := r.o.get(b[at:at+4]), r.o.get(b[at+4:at+blockHead])
		if size < blockBytes || size%4 != 0 {
			return false
		}
		if size > len(b)-at {
			break
		}
		end := at + size - 4
		if r.o.get(b[end:end+4]) != size || !r.block(kind, b[at+blockHead:end]) {
			return false
		}
		r.parts = append(r.parts, [3]int{kind, at, size})
		at += size
	}
	r.torn = len(b) - at
	return at > 0 // the first block must be whole
}

// block reads the body of a whole block, and tells whether it is right.
func (r *reading) block(kind int, body []byte) bool {
	isName := false
	switch kind {
	case sectionBlock:
		return len(r.parts) == 0 && r.section(body)
	case faceBlock:
		return r.face(body)
	case packetBlock:
		return r.packet(body)
	case nameBlock:
		isName = true
		fallthrough // a name has the form of a secret
	case secretBlock:
		return r.pair(body, isName)
	}
	return true
}

func (r *reading) section(body []byte) bool {
	if !bytes.HasPrefix(body, sectionBegin(r.o)) {
		return false
	}
	note, ok := r.lastOption(body[sectionHead:], noteOption)
	r.c.Note = note
	return ok
}

func (r *reading) face(body []byte) bool {
	if len(body) < faceHead || r.o.get(body[2:4]) != 0 {
		return false
	}
	name, ok := r.lastOption(body[faceHead:], nameOption)
	r.c.Faces = append(r.c.Faces, api.Face{Name: name, Link: r.o.get(body[:2]), Snap: r.o.get(body[4:faceHead])})
	return ok
}

func (r *reading) packet(body []byte) bool {
	if len(body) < packetHead {
		return false
	}
	head, rest := body[:packetHead], body[packetHead:]
	data, rest, ok := filled(rest, r.o.get(head[12:16]))
	if !ok {
		return false
	}
	note, ok := r.lastOption(rest, noteOption)
	r.c.Packets = append(r.c.Packets, api.Packet{
		Time: r.o.get(head[4:8])<<32 | r.o.get(head[8:12]), // a high half beyond 31 bits makes it negative, so no valid time
		Face: r.o.get(head[:4]),
		Real: r.o.get(head[16:]),
		Data: bytes.Clone(data),
		Note: note,
	})
	return ok
}

// pair reads the body of a name or of a secret.
func (r *reading) pair(body []byte, isName bool) bool {
	if len(body) < pairHead {
		return false
	}
	first, second := r.o.get(body[:2]), r.o.get(body[2:pairHead])
	both, rest, ok := filled(body[pairHead:], first+second)
	if !ok || len(rest) > 0 {
		return false
	}
	if isName {
		r.c.Names = append(r.c.Names, api.Name{Address: bytes.Clone(both[:first]), Text: string(both[first:])})
	} else {
		r.c.Secrets = append(r.c.Secrets, api.Secret{Label: string(both[:first]), Key: bytes.Clone(both[first:])})
	}
	return true
}

// lastOption returns the value of the last option with a code, empty if there is none, and whether all the options are right.
func (r *reading) lastOption(b []byte, code int) (string, bool) {
	if len(b) == 0 { // without an option there is no end of options
		return "", true
	}
	text, count := "", 0
	for len(b) >= optionHead {
		has, size := r.o.get(b[:2]), r.o.get(b[2:optionHead])
		b = b[optionHead:]
		if has == 0 && size == 0 {
			return text, count > 0 && len(b) == 0
		}
		value, rest, ok := filled(b, size)
		if !ok {
			return "", false
		}
		if has == code {
			text = string(value)
		}
		b = rest
		count++
	}
	return "", false
}

// filled returns n bytes that are filled up by 0 to a multiple of 4, what comes behind that, and whether they are there.
func filled(b []byte, n int) ([]byte, []byte, bool) {
	end := n + padding(n)
	if end > len(b) || bytes.Count(b[n:end], []byte{0}) != end-n {
		return nil, nil, false
	}
	return b[:n], b[end:], true
}
