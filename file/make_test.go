package file_test

import (
	"math/rand/v2"
	"slices"
	"strings"
	"testing"

	"wireglass/api"
	"wireglass/capt"
)

// the numbers that stand for any number are the same in each run.
func numbers(seed uint64) *rand.Rand {
	return rand.New(rand.NewPCG(seed, 7))
}

// timed returns a capture whose packets have these times; their bytes tell which they are.
func timed(times ...int) api.Capture {
	c := api.Capture{Faces: []api.Face{{Name: "a", Link: 1}}}
	for i, t := range times {
		c.Packets = append(c.Packets, api.Packet{Time: t, Real: 5, Data: []byte{byte(i)}})
	}
	return c
}

// sized returns a capture whose packets have so many bytes.
func sized(sizes ...int) api.Capture {
	c := timed(make([]int, len(sizes))...)
	for i, n := range sizes {
		c.Packets[i].Data, c.Packets[i].Real = make([]byte, n), 400
	}
	return c
}

// timesOf returns the times of the packets.
func timesOf(c api.Capture) []int {
	var out []int
	for _, p := range c.Packets {
		out = append(out, p.Time)
	}
	return out
}

// rich returns a capture that has something of everything.
func rich() api.Capture {
	return api.Capture{
		Note:    "rich",
		Faces:   []api.Face{{Name: "a", Link: 1}, {Name: "b", Link: 2, Snap: 60}},
		Names:   []api.Name{{Address: []byte{10, 0, 0, 1}, Text: "host"}, {Address: []byte{1}}},
		Secrets: []api.Secret{{Label: "k", Key: []byte{0, 255}}, {Label: "l", Key: []byte{7}}},
		Packets: []api.Packet{
			{Time: 30, Face: 1, Real: 9, Data: []byte{1, 2, 3}, Note: "first"},
			{Time: 10, Face: 0, Real: 1000000, Data: []byte{4}},
			{Time: 20, Face: 1, Real: 0},
			{Time: 20, Face: 0, Real: 2, Data: []byte{5, 6}, Note: "last"},
		},
	}
}

// anyCapture returns a capture with things that are often equal.
func anyCapture(r *rand.Rand) api.Capture {
	c := api.Capture{Note: []string{"", "x", "y"}[r.IntN(3)]}
	for range 1 + r.IntN(2) {
		c.Faces = append(c.Faces, api.Face{Name: []string{"", "f"}[r.IntN(2)], Link: r.IntN(2), Snap: 0})
	}
	for range r.IntN(4) {
		c.Names = append(c.Names, api.Name{Address: make([]byte, 1+r.IntN(2)), Text: []string{"n", "m"}[r.IntN(2)]})
	}
	for range r.IntN(4) {
		c.Secrets = append(c.Secrets, api.Secret{Label: []string{"s", "t"}[r.IntN(2)], Key: make([]byte, 1+r.IntN(2))})
	}
	for range r.IntN(12) {
		data := make([]byte, r.IntN(4))
		for i := range data {
			data[i] = byte(r.IntN(2))
		}
		c.Packets = append(c.Packets, api.Packet{Time: 100 + r.IntN(20), Face: r.IntN(len(c.Faces)), Real: 3 + r.IntN(2), Data: data, Note: []string{"", "p"}[r.IntN(2)]})
	}
	return c
}

// many returns a capture with so many packets.
func many(n int) api.Capture {
	return timed(make([]int, n)...)
}

// spoil overwrites all the memory of a capture.
func spoil(c api.Capture) {
	for i := range c.Names {
		fill(c.Names[i].Address)
		c.Names[i].Text = "spoiled"
	}
	for i := range c.Secrets {
		fill(c.Secrets[i].Key)
		c.Secrets[i].Label = "spoiled"
	}
	for i := range c.Packets {
		fill(c.Packets[i].Data)
		c.Packets[i].Time, c.Packets[i].Note = 77, "spoiled"
	}
	for i := range c.Faces {
		c.Faces[i].Name = "spoiled"
	}
}

func fill(b []byte) {
	for i := range b {
		b[i] = 0xee
	}
}

// wrong is a capture that is refused.
type wrong struct {
	name string
	c    api.Capture
	want api.Errno
}

// wrongs returns captures that are refused.
func wrongs() []wrong {
	change := func(f func(c *api.Capture)) api.Capture {
		c := rich()
		f(&c)
		return c
	}
	return []wrong{
		{"five faces", change(func(c *api.Capture) { c.Faces = make([]api.Face, api.MaxFaces+1) }), api.ErrLarge},
		{"too many packets", many(api.MaxPackets + 1), api.ErrLarge},
		{"too many names", change(func(c *api.Capture) { c.Names = slices.Repeat(c.Names[:1], api.MaxRows+1) }), api.ErrLarge},
		{"no face", api.Capture{}, api.ErrArg},
		{"a note with a line feed", change(func(c *api.Capture) { c.Note = "\n" }), api.ErrArg},
		{"a long note", change(func(c *api.Capture) { c.Note = strings.Repeat("x", api.MaxText+1) }), api.ErrArg},
		{"a time below 0", change(func(c *api.Capture) { c.Packets[3].Time = -1 }), api.ErrArg},
		{"a face that is none", change(func(c *api.Capture) { c.Packets[3].Face = 2 }), api.ErrArg},
		{"a packet above its snap", change(func(c *api.Capture) { c.Packets[0].Data, c.Packets[0].Real = make([]byte, 61), 61 }), api.ErrArg},
	}
}

// gives tells that a call has returned a capture.
func gives(t *testing.T, name string, out api.Capture, e api.Errno, want api.Capture) {
	t.Helper()
	if e != api.OK || !capt.Same(out, want) {
		t.Errorf("%s: %v, %d; not %v", name, out, e, want)
	}
}

// refuses tells that a call has returned an error and nothing else.
func refuses(t *testing.T, name string, out api.Capture, e, want api.Errno) {
	t.Helper()
	if e != want || !capt.Same(out, api.Capture{}) {
		t.Errorf("%s: %v, %d; not the error %d", name, out, e, want)
	}
}

// Each function is called with arguments that are wrong too, for the errors of captures come first.
func TestCapturesAreValidatedFirst(t *testing.T) {
	for _, w := range wrongs() {
		two := []api.Capture{rich(), w.c}
		calls := []struct {
			name string
			call func() (api.Capture, api.Errno)
		}{
			{"Merge", func() (api.Capture, api.Errno) { return mergeOf(two, nil) }},
			{"Join", func() (api.Capture, api.Errno) { return joinOf(two) }},
			{"Shift", func() (api.Capture, api.Errno) { return shiftOf(w.c, -api.MaxTime) }},
			{"Drift", func() (api.Capture, api.Errno) { return driftOf(w.c, -1, -1, -1, -1) }},
			{"Range", func() (api.Capture, api.Errno) { return rangeOf(w.c, 1, 0) }},
			{"Pick", func() (api.Capture, api.Errno) { return pickOf(w.c, []int{7, 7, -1}) }},
			{"Split", func() (api.Capture, api.Errno) { return emptyUnless(splitOf(w.c, 9, 0)) }},
			{"Doubles", func() (api.Capture, api.Errno) { return emptyUnless(doublesOf(w.c, 0, -1)) }},
			{"Index", func() (api.Capture, api.Errno) { return emptyUnless(indexOf(w.c)) }},
		}
		for _, c := range calls {
			out, e := c.call()
			refuses(t, c.name+" of "+w.name, out, e, w.want)
		}
	}
}

// emptyUnless returns a capture that is empty if a list is.
func emptyUnless[T any](l []T, e api.Errno) (api.Capture, api.Errno) {
	if len(l) == 0 {
		return api.Capture{}, e
	}
	return rich(), e
}
