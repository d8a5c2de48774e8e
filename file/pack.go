package file

import (
	"wireglass/api"
	"wireglass/bits"
)

const (
	maxPlain   = 128   // bytes of a part that stand for themselves
	maxRepeat  = 130   // bytes of a part that are there already
	repeatLess = 125   // what is taken from the first byte of a repeat to have its length
	repeatHead = 3     // bytes of a part that is a repeat
	maxBack    = 65535 // the greatest distance of a repeat
	worth      = 4     // bytes of the shortest repeat that is packed: one of 3 saves nothing, but may cut a part of plain bytes in two
)

// Pack returns bytes packed by repeats.
func Pack(b []byte) ([]byte, api.Errno) {
	if len(b) > api.MaxFile {
		return nil, api.ErrLarge
	}
	out, e := bits.Seven(len(b))
	if e != api.OK {
		return nil, e
	}
	p := packer{b: b, last: map[int]int{}}
	done := 0
	for p.at < len(b) {
		n, back := p.repeat()
		if n == 0 {
			p.step()
			continue
		}
		out = addPlain(out, b[done:p.at])
		out = append(out, byte(n+repeatLess), byte(back>>8), byte(back))
		for range n {
			p.step()
		}
		done = p.at
	}
	return addPlain(out, b[done:]), api.OK
}

// Unpack returns the bytes that were packed.
func Unpack(b []byte) ([]byte, api.Errno) {
	if len(b) > 2*api.MaxFile {
		return nil, api.ErrLarge
	}
	size, used, e := bits.Unseven(b)
	if e != api.OK {
		return nil, api.ErrBroken
	}
	if size > api.MaxFile {
		return nil, api.ErrLarge
	}
	var out []byte
	for b = b[used:]; len(b) > 0; b = b[used:] {
		out, used = addPart(out, b)
		if used == 0 || len(out) > size {
			return nil, api.ErrBroken
		}
	}
	if len(out) != size {
		return nil, api.ErrBroken
	}
	return out, api.OK
}

// packer goes through bytes and knows where each few of them stood last.
type packer struct {
	b    []byte
	at   int
	last map[int]int
}

// few returns the number that the next bytes make, and whether there are enough of them.
func (p *packer) few() (int, bool) {
	n, e := bits.Get(p.b, 8*p.at, 8*worth, false)
	return n, e == api.OK
}

// repeat returns how many of the next bytes are there already, and how far back; 0 if they are too few.
func (p *packer) repeat() (int, int) {
	few, ok := p.few()
	if !ok {
		return 0, 0
	}
	from, ok := p.last[few]
	if !ok || p.at-from > maxBack {
		return 0, 0
	}
	n := worth
	for most := min(maxRepeat, len(p.b)-p.at); n < most && p.b[from+n] == p.b[p.at+n]; {
		n++
	}
	return n, p.at - from
}

// step goes one byte further.
func (p *packer) step() {
	if few, ok := p.few(); ok {
		p.last[few] = p.at
	}
	p.at++
}

// addPlain appends the parts for bytes that stand for themselves.
func addPlain(out, b []byte) []byte {
	for len(b) > 0 {
		n := min(len(b), maxPlain)
		out = append(append(out, byte(n-1)), b[:n]...)
		b = b[n:]
	}
	return out
}

// addPart appends the bytes of the part with which packed bytes begin, and returns how many bytes that part has; 0 if it is none.
func addPart(out, b []byte) ([]byte, int) {
	n := int(b[0])
	if n < maxPlain {
		end := n + 2
		if end > len(b) {
			return nil, 0
		}
		return append(out, b[1:end]...), end
	}
	if len(b) < repeatHead {
		return nil, 0
	}
	from := len(out) - int(b[1])<<8 - int(b[2])
	if from < 0 || from == len(out) {
		return nil, 0
	}
	for i := range n - repeatLess {
		out = append(out, out[from+i]) // may be a byte of this very part
	}
	return out, repeatHead
}
