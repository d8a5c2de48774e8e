package capt_test

import (
	"bytes"
	"math"
	"testing"

	"wireglass/api"
	"wireglass/capt"
)

// refusals calls each function that refuses what Validate refuses, with other arguments that are wrong too.
func refusals(t *testing.T, name string, c api.Capture, want api.Errno) {
	t.Helper()
	if e := capt.Validate(c); e != want {
		t.Errorf("Validate, %s: %d, not %d", name, e, want)
	}
	for _, old := range []bool{false, true} {
		if b, e := capt.Write(c, old, old); len(b) != 0 || e != want {
			t.Errorf("Write, %s: %x, %d", name, b, e)
		}
	}
	if out, e := capt.Plain(c); !capt.Same(out, api.Capture{}) || e != want {
		t.Errorf("Plain, %s: %v, %d", name, out, e)
	}
	for _, n := range []int{-1, 0, 401} {
		if out, e := capt.Cut(c, n); !capt.Same(out, api.Capture{}) || e != want {
			t.Errorf("Cut, %s: %v, %d", name, out, e)
		}
	}
}

func TestValidateTellsWhatIsTooLargeFirst(t *testing.T) {
	for _, large := range tooLarge() {
		c := rich()
		large.change(&c)
		refusals(t, large.name, c, api.ErrLarge)
		for _, wrong := range wrongs()[1:] {
			c := rich()
			wrong.change(&c)
			large.change(&c)
			refusals(t, large.name+" and "+wrong.name, c, api.ErrLarge)
		}
	}
	none := api.Capture{Packets: make([]api.Packet, api.MaxPackets+1)}
	refusals(t, "packets of no face", none, api.ErrLarge)
}

func TestValidateRefusesAllElse(t *testing.T) {
	for _, wrong := range wrongs() {
		c := rich()
		wrong.change(&c)
		refusals(t, wrong.name, c, api.ErrArg)
	}
	refusals(t, "nothing", api.Capture{}, api.ErrArg)
}

func TestValidateTakesTheLastValues(t *testing.T) {
	for _, c := range []struct {
		name   string
		change func(c *api.Capture)
	}{
		{"links and snaps", func(c *api.Capture) { c.Faces = []api.Face{face("", 0, 0), face("", 65535, 400), face("", 0, 400)} }},
		{"texts", func(c *api.Capture) {
			c.Note, c.Faces[0].Name, c.Names[0].Text = longText(200), longText(200), longText(200)
			c.Secrets[0].Label, c.Packets[0].Note = longText(200), longText(200)
		}},
		{"bytes of texts", func(c *api.Capture) { c.Note, c.Secrets[0].Label = " ~", " " }},
		{"no texts", func(c *api.Capture) {
			c.Note, c.Faces[0].Name, c.Names[0].Text, c.Packets[0].Note = "", "", "", ""
		}},
		{"addresses and keys", func(c *api.Capture) {
			c.Names[0].Address, c.Names[1].Address = anyBytes(1), anyBytes(16)
			c.Secrets[0].Key, c.Secrets[1].Key = anyBytes(1), anyBytes(200)
		}},
		{"times", func(c *api.Capture) { c.Packets[0].Time, c.Packets[1].Time = api.MaxTime, 0 }},
		{"the snap of no limit", func(c *api.Capture) { c.Packets[0].Data, c.Packets[0].Real = anyBytes(400), 400 }},
		{"the snap itself", func(c *api.Capture) { c.Packets[1].Data, c.Packets[1].Real = anyBytes(60), 1000000 }},
		{"no data", func(c *api.Capture) { c.Packets[1].Data, c.Packets[1].Real = nil, 0 }},
		{"as many as there may be", func(c *api.Capture) { *c = fullest() }},
	} {
		out := rich()
		c.change(&out)
		if e := capt.Validate(out); e != api.OK {
			t.Errorf("%s: %d", c.name, e)
		}
	}
}

func TestPlain(t *testing.T) {
	c := api.Capture{
		Note:    "note",
		Faces:   []api.Face{face("eth0", 7, 100), face("eth1", 8, 0)},
		Names:   []api.Name{name([]byte{1}, "one")},
		Secrets: []api.Secret{secret("label", []byte{2})},
		Packets: []api.Packet{
			packet(5, 0, 3, []byte{1, 2, 3}, "first"), packet(6, 1, 1, []byte{4}, ""), packet(api.MaxTime, 0, 9, nil, ""), packet(4, 0, 100, anyBytes(100), "last"),
		},
	}
	want := api.Capture{
		Faces:   []api.Face{face("", 7, 100)},
		Packets: []api.Packet{packet(5, 0, 3, []byte{1, 2, 3}, ""), packet(api.MaxTime, 0, 9, nil, ""), packet(4, 0, 100, anyBytes(100), "")},
	}
	out, e := capt.Plain(c)
	if e != api.OK || !capt.Same(out, want) {
		t.Errorf("Plain: %v, %d", out, e)
	}
	for i := range c.Packets {
		clear(c.Packets[i].Data)
	}
	if !capt.Same(out, want) {
		t.Errorf("Plain shares memory with its argument: %v", out)
	}
}

func TestPlainIsWhatTheOldKindCanHave(t *testing.T) {
	for i, c := range captures() {
		out, e := capt.Plain(c)
		if e != api.OK {
			t.Fatalf("Plain of capture %d: %d", i, e)
		}
		again, _ := capt.Plain(out)
		if !capt.Same(again, out) {
			t.Errorf("Plain of Plain of capture %d is another one", i)
		}
		if _, e := capt.Write(out, true, false); e != api.OK {
			t.Errorf("the old kind cannot have Plain of capture %d: %d", i, e)
		}
		if _, e := capt.Write(c, true, true); (e == api.OK) != capt.Same(out, c) {
			t.Errorf("Write of capture %d: %d", i, e)
		}
	}
}

func TestSameComparesAllFields(t *testing.T) {
	for i, change := range []func(c *api.Capture){
		func(c *api.Capture) { c.Note = "another" },
		func(c *api.Capture) { c.Faces[1].Name = "x" },
		func(c *api.Capture) { c.Faces[1].Link++ },
		func(c *api.Capture) { c.Faces[1].Snap++ },
		func(c *api.Capture) { c.Faces = c.Faces[:2] },
		func(c *api.Capture) { c.Faces[0], c.Faces[1] = c.Faces[1], c.Faces[0] },
		func(c *api.Capture) { c.Names[3].Address[5]++ },
		func(c *api.Capture) { c.Names[3].Address = c.Names[3].Address[:5] },
		func(c *api.Capture) { c.Names[3].Text = "H" },
		func(c *api.Capture) { c.Names = c.Names[:3] },
		func(c *api.Capture) { c.Names = nil },
		func(c *api.Capture) { c.Secrets[3].Label = "LAB" },
		func(c *api.Capture) { c.Secrets[3].Key[199]++ },
		func(c *api.Capture) { c.Secrets = append(c.Secrets, c.Secrets[0]) },
		func(c *api.Capture) { c.Packets[11].Time++ },
		func(c *api.Capture) { c.Packets[11].Face-- },
		func(c *api.Capture) { c.Packets[11].Real++ },
		func(c *api.Capture) { c.Packets[11].Data[0]++ },
		func(c *api.Capture) { c.Packets[11].Data = nil },
		func(c *api.Capture) { c.Packets[11].Note = "" },
		func(c *api.Capture) { c.Packets = c.Packets[:11] },
		func(c *api.Capture) { *c = api.Capture{} },
	} {
		c := rich()
		change(&c)
		if capt.Same(rich(), c) || capt.Same(c, rich()) {
			t.Errorf("change %d: the same", i)
		}
		if !capt.Same(c, c) {
			t.Errorf("change %d: not the same as itself", i)
		}
	}
}

func TestSameTakesNilAndEmptyAsTheSame(t *testing.T) {
	a := api.Capture{
		Names: []api.Name{name(nil, "x")}, Secrets: []api.Secret{secret("x", nil)}, Packets: []api.Packet{{Face: math.MinInt}},
	}
	b := api.Capture{
		Faces: []api.Face{}, Names: []api.Name{name([]byte{}, "x")}, Secrets: []api.Secret{secret("x", []byte{})}, Packets: []api.Packet{{Face: math.MinInt, Data: []byte{}}},
	}
	empty := api.Capture{Faces: []api.Face{}, Names: []api.Name{}, Secrets: []api.Secret{}, Packets: []api.Packet{}}
	if !capt.Same(a, b) || !capt.Same(b, a) || !capt.Same(empty, api.Capture{}) {
		t.Error("nil is another one than empty")
	}
}

// scramble changes all memory of a capture.
func scramble(c api.Capture) {
	for i := range c.Faces {
		c.Faces[i] = api.Face{Name: "other"}
	}
	for i := range c.Names {
		clear(c.Names[i].Address)
		c.Names[i] = api.Name{Text: "other"}
	}
	for i := range c.Secrets {
		clear(c.Secrets[i].Key)
		c.Secrets[i] = api.Secret{Label: "other"}
	}
	for i := range c.Packets {
		clear(c.Packets[i].Data)
		c.Packets[i] = api.Packet{Note: "other"}
	}
}

func TestCopyIsTheSameInNewMemory(t *testing.T) {
	made := func() []api.Capture { // witnesses are made anew, not copied
		odd := rich() // Copy refuses nothing
		odd.Packets[0] = packet(-1, 99, math.MinInt, anyBytes(1000), "\n")
		odd.Names = append(odd.Names, api.Name{})
		return append(captures(), odd, api.Capture{})
	}
	whole, changed := made(), made()
	for i, c := range made() {
		out := capt.Copy(c)
		if !capt.Same(out, whole[i]) {
			t.Errorf("capture %d: Copy is another one", i)
		}
		scramble(out)
		if !capt.Same(c, whole[i]) {
			t.Errorf("capture %d: a change of the copy changed it", i)
		}
		out = capt.Copy(changed[i])
		scramble(changed[i])
		if !capt.Same(out, whole[i]) {
			t.Errorf("capture %d: its change changed the copy", i)
		}
	}
}

func TestCut(t *testing.T) {
	for i, c := range captures() {
		for _, n := range []int{0, 1, 2, 49, 59, 60, 61, 399, 400} {
			out, e := capt.Cut(c, n)
			if e != api.OK {
				t.Fatalf("Cut of capture %d, %d: %d", i, n, e)
			}
			if e := capt.Validate(out); e != api.OK {
				t.Errorf("Cut of capture %d, %d: no capture, %d", i, n, e)
			}
			want := capt.Copy(c)
			for k, f := range c.Faces {
				if f.Snap == 0 || f.Snap > n {
					want.Faces[k].Snap = n
				}
			}
			for k, p := range c.Packets {
				if len(p.Data) > n {
					want.Packets[k].Data = p.Data[:n]
				}
			}
			if !capt.Same(out, want) {
				t.Errorf("Cut of capture %d, %d: not as told", i, n)
			}
			scramble(out)
			if !capt.Same(c, captures()[i]) {
				t.Errorf("Cut of capture %d, %d shares memory with it", i, n)
			}
		}
	}
}

func TestCutGivenCase(t *testing.T) {
	c := api.Capture{
		Faces:   []api.Face{face("a", 1, 0), face("b", 1, 2), face("c", 1, 3), face("d", 1, 4)},
		Packets: []api.Packet{packet(1, 0, 9, []byte("abcdefgh"), "n"), packet(2, 1, 2, []byte("ab"), ""), packet(3, 2, 3, []byte("abc"), ""), packet(4, 3, 4, []byte("abcd"), "")},
	}
	out, e := capt.Cut(c, 3)
	want := api.Capture{
		Faces:   []api.Face{face("a", 1, 3), face("b", 1, 2), face("c", 1, 3), face("d", 1, 3)},
		Packets: []api.Packet{packet(1, 0, 9, []byte("abc"), "n"), packet(2, 1, 2, []byte("ab"), ""), packet(3, 2, 3, []byte("abc"), ""), packet(4, 3, 4, []byte("abc"), "")},
	}
	if e != api.OK || !capt.Same(out, want) {
		t.Errorf("Cut to 3: %v, %d", out, e)
	}
	out, e = capt.Cut(c, 0)
	for i := range want.Faces {
		want.Faces[i].Snap = 0
		want.Packets[i].Data = nil
	}
	if e != api.OK || !capt.Same(out, want) {
		t.Errorf("Cut to 0: %v, %d", out, e)
	}
}

func TestCutErrors(t *testing.T) {
	for _, n := range []int{-1, 401, math.MinInt, math.MaxInt} {
		if out, e := capt.Cut(rich(), n); !capt.Same(out, api.Capture{}) || e != api.ErrArg {
			t.Errorf("Cut to %d: %v, %d", n, out, e)
		}
	}
}

func TestNothingChangesItsArguments(t *testing.T) {
	for i, c := range captures() {
		capt.Validate(c)
		capt.Plain(c)
		capt.Cut(c, 3)
		capt.Cut(c, 0)
		for way := range 4 {
			b, _ := capt.Write(c, way&1 == 1, way&2 == 2)
			file := bytes.Clone(b)
			capt.Kind(b)
			capt.Blocks(b)
			out, _, _ := capt.Read(b)
			scramble(out)
			if !bytes.Equal(b, file) {
				t.Errorf("capture %d: its file changed", i)
			}
		}
		if !capt.Same(c, captures()[i]) {
			t.Errorf("capture %d changed", i)
		}
	}
}
