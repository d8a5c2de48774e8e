package file

import (
	"bytes"
	"slices"
	"sync"

	"wireglass/api"
	"wireglass/capt"
)

// Ring keeps the last packets, in so many files of so many packets each. Several goroutines may use it at the same time.
type Ring struct {
	files, packets int // at most; never changed
	lock           sync.Mutex
	kept           [][]api.Packet
	lost           int
}

// NewRing returns a ring without packets.
func NewRing(files, packets int) (*Ring, api.Errno) {
	if files < 1 || files > api.MaxItems || packets < 1 || packets > api.MaxPackets {
		return nil, api.ErrArg
	}
	return &Ring{files: files, packets: packets}, api.OK
}

// Put puts a packet into the newest file, which may make a new one, and the oldest one go.
func (r *Ring) Put(p api.Packet) api.Errno {
	if r == nil || r.files == 0 { // NewRing has not made it
		return api.ErrState
	}
	if !isPacket(p) {
		return api.ErrArg
	}
	p.Data = bytes.Clone(p.Data)
	r.lock.Lock()
	defer r.lock.Unlock()
	if n := len(r.kept); n == 0 || len(r.kept[n-1]) == r.packets {
		r.begin()
	}
	newest := len(r.kept) - 1
	r.kept[newest] = append(r.kept[newest], p)
	return api.OK
}

// Files returns the packets of the files, the oldest first.
func (r *Ring) Files() [][]api.Packet {
	if r == nil {
		return nil
	}
	r.lock.Lock()
	defer r.lock.Unlock()
	out := make([][]api.Packet, len(r.kept))
	for i, l := range r.kept {
		out[i] = with(api.Capture{}, l).Packets
	}
	return out
}

// Lost returns how many packets have gone with their files.
func (r *Ring) Lost() int {
	if r == nil {
		return 0
	}
	r.lock.Lock()
	defer r.lock.Unlock()
	return r.lost
}

// begin makes a new file.
func (r *Ring) begin() {
	if len(r.kept) == r.files {
		r.lost += len(r.kept[0])
		r.kept = slices.Delete(r.kept, 0, 1)
	}
	r.kept = append(r.kept, nil)
}

// isPacket tells whether some capture can have a packet.
func isPacket(p api.Packet) bool {
	c := api.Capture{Faces: make([]api.Face, api.MaxFaces), Packets: []api.Packet{p}}
	return capt.Validate(c) == api.OK
}
