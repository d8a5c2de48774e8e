package file_test

import (
	"math"
	"slices"
	"strconv"
	"testing"

	"wireglass/api"
	"wireglass/capt"
)

func TestMergeGivenTimes(t *testing.T) {
	for _, c := range []struct {
		l      [][]int
		drifts []int
		want   []int
	}{
		{[][]int{{1, 3}, {2, 2}}, []int{0, 0}, []int{1, 2, 2, 3}},
		{[][]int{{5, 1, 6}}, []int{0}, []int{5, 1, 6}}, // times that go back keep their order
		{[][]int{{5, 1, 6}, {3, 4}}, []int{0, 0}, []int{3, 4, 5, 1, 6}},
		{[][]int{{5, 1, 6}, {5, 2}}, []int{0, 0}, []int{5, 1, 5, 2, 6}},
		{[][]int{{}}, []int{0}, nil},
		{[][]int{{}, {}}, []int{0, 0}, nil},
		{[][]int{{}, {7}, {}}, []int{0, 0, 0}, []int{7}},
		{[][]int{{10, 20}, {10, 20}}, []int{0, -5}, []int{5, 10, 15, 20}},
		{[][]int{{10, 20}, {10, 20}}, []int{5, -10}, []int{0, 10, 15, 25}},
		{[][]int{{10}, {20}}, []int{11, 0}, []int{20, 21}},
		{[][]int{{3}, {2}, {1}}, []int{0, 0, 0}, []int{1, 2, 3}},
		{[][]int{{0, api.MaxTime - 7}}, []int{7}, []int{7, api.MaxTime}},
		{[][]int{{7, api.MaxTime}}, []int{-7}, []int{0, api.MaxTime - 7}},
		{[][]int{{0}}, []int{api.MaxTime}, []int{api.MaxTime}},
		{[][]int{{api.MaxTime}}, []int{-api.MaxTime}, []int{0}},
		{[][]int{{}, {1}}, []int{math.MaxInt, 0}, []int{1}}, // no packet, no time
		{[][]int{{}, {1}}, []int{math.MinInt, 0}, []int{1}},
	} {
		var l []api.Capture
		for _, times := range c.l {
			l = append(l, timed(times...))
		}
		out, e := mergeOf(l, c.drifts)
		if e != api.OK || !slices.Equal(timesOf(out), c.want) {
			t.Errorf("Merge %v: %v, %d", c, timesOf(out), e)
		}
	}
}

func TestMergeOfEqualTimesTakesTheFirstCapture(t *testing.T) {
	a, b, c := timed(4, 4), timed(4, 4), timed(4)
	for i, x := range []*api.Capture{&a, &b, &c} {
		for k := range x.Packets {
			x.Packets[k].Note = strconv.Itoa(i)
		}
	}
	out, e := mergeOf([]api.Capture{a, b, c}, []int{0, 0, 0})
	var got []string
	for _, p := range out.Packets {
		got = append(got, p.Note+strconv.Itoa(int(p.Data[0])))
	}
	if want := []string{"00", "01", "10", "11", "20"}; e != api.OK || !slices.Equal(got, want) {
		t.Errorf("Merge: %v, %d", got, e)
	}
}

func TestMergeOfOneCapture(t *testing.T) {
	out, e := mergeOf([]api.Capture{rich()}, []int{0})
	gives(t, "Merge of one", out, e, rich())
	out, e = mergeOf([]api.Capture{rich(), rich()}, []int{0, 100})
	want := rich()
	for _, p := range rich().Packets {
		p.Time += 100
		want.Packets = append(want.Packets, p)
	}
	gives(t, "Merge of two equal ones", out, e, want)
}

func TestMergeMakesEqualThingsOne(t *testing.T) {
	a := api.Capture{
		Faces:   []api.Face{{Name: "x", Link: 1}, {Name: "y", Link: 1}, {Name: "x", Link: 1}},
		Names:   []api.Name{{Address: []byte{1}, Text: "one"}, {Address: []byte{1}, Text: "one"}, {Address: []byte{1, 0}, Text: "one"}},
		Secrets: []api.Secret{{Label: "k", Key: []byte{1}}, {Label: "k", Key: []byte{2}}, {Label: "k", Key: []byte{1}}},
		Packets: []api.Packet{{Time: 1, Face: 2}, {Time: 2, Face: 1}, {Time: 9, Face: 0}},
	}
	b := api.Capture{
		Note:    "b",
		Faces:   []api.Face{{Name: "x", Link: 1, Snap: 9}, {Name: "y", Link: 1}, {Name: "x", Link: 2}, {Name: "x", Link: 1}},
		Names:   []api.Name{{Address: []byte{2}, Text: "one"}, {Address: []byte{1}, Text: "two"}, {Address: []byte{1, 0}, Text: "one"}},
		Secrets: []api.Secret{{Label: "l", Key: []byte{1}}, {Label: "k", Key: []byte{2}}},
		Packets: []api.Packet{{Time: 3, Face: 3}, {Time: 4, Face: 2}, {Time: 5, Face: 1}, {Time: 6, Face: 0}},
	}
	c := api.Capture{Note: "c", Faces: []api.Face{{Name: "x", Link: 2}}, Packets: []api.Packet{{Time: 7, Face: 0}}}
	want := api.Capture{
		Note:    "b",
		Faces:   []api.Face{{Name: "x", Link: 1}, {Name: "y", Link: 1}, {Name: "x", Link: 1, Snap: 9}, {Name: "x", Link: 2}},
		Names:   []api.Name{{Address: []byte{1}, Text: "one"}, {Address: []byte{1, 0}, Text: "one"}, {Address: []byte{2}, Text: "one"}, {Address: []byte{1}, Text: "two"}},
		Secrets: []api.Secret{{Label: "k", Key: []byte{1}}, {Label: "k", Key: []byte{2}}, {Label: "l", Key: []byte{1}}},
		Packets: []api.Packet{{Time: 1, Face: 0}, {Time: 2, Face: 1}, {Time: 3, Face: 0}, {Time: 4, Face: 3}, {Time: 5, Face: 1}, {Time: 6, Face: 2}, {Time: 7, Face: 3}, {Time: 9, Face: 0}},
	}
	out, e := mergeOf([]api.Capture{a, b, c}, []int{0, 0, 0})
	gives(t, "Merge", out, e, want)
}

// modelMerge merges as the chapter says it, by marking what has been taken.
func modelMerge(l []api.Capture, drifts []int) api.Capture {
	var out api.Capture
	heads := make([]int, len(l))
	for _, c := range l {
		if out.Note == "" {
			out.Note = c.Note
		}
		for _, f := range c.Faces {
			if !slices.Contains(out.Faces, f) {
				out.Faces = append(out.Faces, f)
			}
		}
		for _, n := range c.Names {
			if !slices.ContainsFunc(out.Names, func(m api.Name) bool { return m.Text == n.Text && slices.Equal(m.Address, n.Address) }) {
				out.Names = append(out.Names, n)
			}
		}
		for _, n := range c.Secrets {
			if !slices.ContainsFunc(out.Secrets, func(m api.Secret) bool { return m.Label == n.Label && slices.Equal(m.Key, n.Key) }) {
				out.Secrets = append(out.Secrets, n)
			}
		}
	}
	for {
		best, time := -1, 0
		for k := len(l) - 1; k >= 0; k-- {
			if heads[k] == len(l[k].Packets) {
				continue
			}
			if at := l[k].Packets[heads[k]].Time + drifts[k]; best < 0 || at <= time {
				best, time = k, at
			}
		}
		if best < 0 {
			return out
		}
		p := l[best].Packets[heads[best]]
		heads[best]++
		p.Time, p.Face = time, slices.Index(out.Faces, l[best].Faces[p.Face])
		out.Packets = append(out.Packets, p)
	}
}

func TestMergeOfAnyCaptures(t *testing.T) {
	r := numbers(1)
	for range 3000 {
		var l []api.Capture
		var drifts []int
		for range 1 + r.IntN(5) {
			l = append(l, anyCapture(r))
			drifts = append(drifts, r.IntN(21)-10)
		}
		out, e := mergeOf(l, drifts)
		gives(t, "Merge", out, e, modelMerge(l, drifts))
		if e := capt.Validate(out); e != api.OK {
			t.Fatalf("Merge made no capture: %d", e)
		}
	}
}

func TestMergeErrors(t *testing.T) {
	bad, large := api.Capture{}, many(api.MaxPackets+1)
	full := many(api.MaxPackets)
	for _, c := range []struct {
		name   string
		l      []api.Capture
		drifts []int
		want   api.Errno
	}{
		{"none", nil, nil, api.ErrArg},
		{"none, empty", []api.Capture{}, []int{}, api.ErrArg},
		{"none with a drift", nil, []int{0}, api.ErrFit},
		{"fewer drifts", []api.Capture{rich(), rich()}, []int{0}, api.ErrFit},
		{"no drifts", []api.Capture{rich()}, nil, api.ErrFit},
		{"more drifts", []api.Capture{rich()}, []int{0, 0}, api.ErrFit},
		{"one below 0", []api.Capture{timed(5, 4)}, []int{-5}, api.ErrArg},
		{"far below 0", []api.Capture{timed(5)}, []int{math.MinInt}, api.ErrArg},
		{"one beyond", []api.Capture{timed(5, 6)}, []int{api.MaxTime - 5}, api.ErrArg},
		{"far beyond", []api.Capture{timed(5)}, []int{math.MaxInt}, api.ErrArg},
		{"the last one beyond", []api.Capture{timed(5), timed(0, 1)}, []int{0, api.MaxTime}, api.ErrArg},
		{"too many packets", []api.Capture{full, timed(1)}, []int{0, 0}, api.ErrLarge},
		// The order of errors: one capture after the other, then ErrFit, ErrArg, ErrLarge.
		{"a wrong one first", []api.Capture{bad, large}, nil, api.ErrArg},
		{"a large one first", []api.Capture{large, bad}, nil, api.ErrLarge},
		{"a wrong one behind", []api.Capture{rich(), bad}, nil, api.ErrArg},
		{"drifts before times", []api.Capture{timed(5)}, []int{-6, 0}, api.ErrFit},
		{"drifts before size", []api.Capture{full, full}, []int{0}, api.ErrFit},
		{"times before size", []api.Capture{full, full}, []int{0, -1}, api.ErrArg},
	} {
		out, e := mergeOf(c.l, c.drifts)
		refuses(t, c.name, out, e, c.want)
	}
}

// withFaces returns captures with n faces in all, no two of them equal, and one that is there twice.
func withFaces(n int) []api.Capture {
	var out []api.Capture
	for i := range n {
		out = append(out, api.Capture{Faces: []api.Face{{Link: i}, {Link: 0}}})
	}
	return out
}

// withRows returns two captures with so many names and secrets together, some of which are in both.
func withRows(names, secrets int) []api.Capture {
	a, b := timed(), timed()
	for i := range names {
		n := api.Name{Address: []byte{byte(i)}, Text: "n"}
		if i < api.MaxRows {
			a.Names = append(a.Names, n)
		}
		if i >= api.MaxRows/2 {
			b.Names = append(b.Names, n)
		}
	}
	for i := range secrets {
		s := api.Secret{Label: "s", Key: []byte{byte(i)}}
		if i < api.MaxRows {
			a.Secrets = append(a.Secrets, s)
		}
		if i >= api.MaxRows/2 {
			b.Secrets = append(b.Secrets, s)
		}
	}
	return []api.Capture{a, b}
}

func TestMergeLimits(t *testing.T) {
	for _, c := range []struct {
		name string
		l    []api.Capture
		want api.Errno
	}{
		{"all faces", withFaces(api.MaxFaces), api.OK},
		{"a face too many", withFaces(api.MaxFaces + 1), api.ErrLarge},
		{"all rows", withRows(api.MaxRows, api.MaxRows), api.OK},
		{"a name too many", withRows(api.MaxRows+1, api.MaxRows), api.ErrLarge},
		{"a secret too many", withRows(api.MaxRows, api.MaxRows+1), api.ErrLarge},
		{"all packets", []api.Capture{many(60), many(40)}, api.OK},
		{"a packet too many", []api.Capture{many(60), many(41)}, api.ErrLarge},
	} {
		drifts := make([]int, len(c.l))
		out, e := mergeOf(c.l, drifts)
		if c.want == api.OK {
			gives(t, c.name, out, e, modelMerge(c.l, drifts))
		} else {
			refuses(t, c.name, out, e, c.want)
		}
	}
}

func TestJoin(t *testing.T) {
	a, b, c := rich(), rich(), rich()
	b.Packets, c.Packets = nil, []api.Packet{{Time: 3, Note: "behind"}, {Time: 1}}
	out, e := joinOf([]api.Capture{a, b, c, a})
	want := rich()
	want.Packets = slices.Concat(a.Packets, c.Packets, a.Packets)
	gives(t, "Join", out, e, want)
	out, e = joinOf([]api.Capture{a})
	gives(t, "Join of one", out, e, a)
	out, e = joinOf([]api.Capture{b, b})
	gives(t, "Join without packets", out, e, b)
	out, e = joinOf([]api.Capture{many(60), many(40)})
	if e != api.OK || len(out.Packets) != api.MaxPackets {
		t.Errorf("Join up to the limit: %d packets, %d", len(out.Packets), e)
	}
}

func TestJoinErrors(t *testing.T) {
	refuse := func(name string, want api.Errno, l ...api.Capture) {
		t.Helper()
		out, e := joinOf(l)
		refuses(t, name, out, e, want)
	}
	refuse("none", api.ErrArg)
	refuse("a packet too many", api.ErrLarge, many(60), many(41))
	refuse("far too many packets", api.ErrLarge, many(100), many(100), many(100))
	for name, change := range map[string]func(c *api.Capture){
		"another note":                 func(c *api.Capture) { c.Note = "" },
		"another face's name":          func(c *api.Capture) { c.Faces[1].Name = "z" },
		"another face's link":          func(c *api.Capture) { c.Faces[1].Link++ },
		"another face's snap":          func(c *api.Capture) { c.Faces[1].Snap++ },
		"one more face":                func(c *api.Capture) { c.Faces = append(c.Faces, api.Face{}) },
		"faces in another order":       func(c *api.Capture) { c.Faces[0], c.Faces[1], c.Packets = c.Faces[1], c.Faces[0], nil },
		"another name":                 func(c *api.Capture) { c.Names[1].Text = "z" },
		"another address":              func(c *api.Capture) { c.Names[1].Address[0]++ },
		"no names":                     func(c *api.Capture) { c.Names = nil },
		"names in another order":       func(c *api.Capture) { slices.Reverse(c.Names) },
		"another label":                func(c *api.Capture) { c.Secrets[1].Label = "z" },
		"another key":                  func(c *api.Capture) { c.Secrets[1].Key[0]++ },
		"fewer secrets":                func(c *api.Capture) { c.Secrets = c.Secrets[:1] },
		"secrets in another order":     func(c *api.Capture) { slices.Reverse(c.Secrets) },
		"another note, and no packets": func(c *api.Capture) { c.Note, c.Packets = "x", nil },
	} {
		other := rich()
		change(&other)
		refuse(name, api.ErrFit, rich(), other)
		refuse(name+", at last", api.ErrFit, rich(), rich(), other)
		full := rich()
		full.Packets = slices.Repeat(full.Packets[:1], api.MaxPackets)
		refuse(name+", and too many", api.ErrFit, full, full, other)
		refuse(name+", but a wrong one", api.ErrArg, rich(), other, api.Capture{})
	}
	refuse("a wrong one, then a large one", api.ErrArg, api.Capture{}, many(101))
	refuse("a large one, then a wrong one", api.ErrLarge, many(101), api.Capture{})
}
