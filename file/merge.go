package file

import (
	"bytes"
	"slices"

	"wireglass/api"
	"wireglass/capt"
)

// Merge puts captures together by the times of their packets, those of the k-th capture being later by drifts[k].
func Merge(l []api.Capture, drifts []int) (api.Capture, api.Errno) {
	if e := validate(l); e != api.OK {
		return api.Capture{}, e
	}
	if len(l) != len(drifts) {
		return api.Capture{}, api.ErrFit
	}
	if len(l) == 0 {
		return api.Capture{}, api.ErrArg
	}
	moved := make([]api.Capture, len(l))
	for k, c := range l {
		m, e := Shift(c, drifts[k])
		if e != api.OK {
			return api.Capture{}, e
		}
		moved[k] = m
	}
	if tooMany(moved) {
		return api.Capture{}, api.ErrLarge
	}
	out, e := together(moved)
	if e != api.OK {
		return api.Capture{}, e
	}
	next := inTurn(moved)
	for p, ok := next(); ok; p, ok = next() {
		out.Packets = append(out.Packets, p)
	}
	return out, api.OK
}

// Join puts the packets of captures, which are alike in all else, one behind the other.
func Join(l []api.Capture) (api.Capture, api.Errno) {
	if e := validate(l); e != api.OK {
		return api.Capture{}, e
	}
	if len(l) == 0 {
		return api.Capture{}, api.ErrArg
	}
	first := with(l[0], nil)
	for _, c := range l {
		c.Packets = nil
		if !capt.Same(c, first) {
			return api.Capture{}, api.ErrFit
		}
	}
	if tooMany(l) {
		return api.Capture{}, api.ErrLarge
	}
	var packets []api.Packet
	for _, c := range l {
		packets = append(packets, c.Packets...)
	}
	return with(first, packets), api.OK
}

// tooMany tells whether captures have more packets than one can have.
func tooMany(l []api.Capture) bool {
	n := 0
	for _, c := range l {
		n += len(c.Packets)
	}
	return n > api.MaxPackets
}

// together returns all that captures have beside packets, each equal thing once, and turns the faces of their packets into those of the result.
func together(l []api.Capture) (api.Capture, api.Errno) {
	var out api.Capture
	for _, c := range l {
		if out.Note == "" {
			out.Note = c.Note
		}
		out.Faces = addNew(out.Faces, c.Faces, func(a, b api.Face) bool { return a == b })
		out.Names = addNew(out.Names, c.Names, sameName)
		out.Secrets = addNew(out.Secrets, c.Secrets, sameSecret)
		if e := capt.Validate(out); e != api.OK { // after each capture, so that the lists that are searched stay short
			return api.Capture{}, e
		}
		for i, p := range c.Packets {
			c.Packets[i].Face = slices.Index(out.Faces, c.Faces[p.Face])
		}
	}
	return out, api.OK
}

// addNew appends the elements of l that are not there yet.
func addNew[T any](out, l []T, same func(a, b T) bool) []T {
	for _, x := range l {
		if !slices.ContainsFunc(out, func(y T) bool { return same(x, y) }) {
			out = append(out, x)
		}
	}
	return out
}

// inTurn returns a function that hands over the packets of captures one by one: of the next one of each capture that with the least time, of equal ones that of the first capture.
func inTurn(l []api.Capture) func() (api.Packet, bool) {
	queues := make([][]api.Packet, len(l))
	for k, c := range l {
		queues[k] = c.Packets
	}
	return func() (api.Packet, bool) {
		first := -1
		for k, q := range queues {
			if len(q) > 0 && (first < 0 || q[0].Time < queues[first][0].Time) {
				first = k
			}
		}
		if first < 0 {
			return api.Packet{}, false
		}
		p := queues[first][0]
		queues[first] = queues[first][1:]
		return p, true
	}
}

func sameName(a, b api.Name) bool {
	return a.Text == b.Text && bytes.Equal(a.Address, b.Address)
}

func sameSecret(a, b api.Secret) bool {
	return a.Label == b.Label && bytes.Equal(a.Key, b.Key)
}
