package file_test

import (
	"bytes"
	"math/rand/v2"
	"slices"
	"testing"

	"wireglass/api"
	"wireglass/bits"
	"wireglass/file"
)

// noise returns n bytes without a rule.
func noise(seed uint64, n int) []byte {
	r := rand.New(rand.NewPCG(seed, 3))
	out := make([]byte, n)
	for i := range out {
		out[i] = byte(r.IntN(256))
	}
	return out
}

// told returns packed bytes: a length, and what follows it.
func told(n int, parts ...[]byte) []byte {
	out, _ := bits.Seven(n)
	return slices.Concat(append([][]byte{out}, parts...)...)
}

// plain returns a part of bytes that stand for themselves, back one that is a repeat.
func plain(b ...byte) []byte {
	return append([]byte{byte(len(b) - 1)}, b...)
}

func back(n, distance int) []byte {
	return []byte{byte(n + 125), byte(distance >> 8), byte(distance)}
}

// packs packs and unpacks bytes, and looks at the size.
func packs(t *testing.T, name string, b []byte) []byte {
	t.Helper()
	was := bytes.Clone(b)
	out, e := file.Pack(b)
	if e != api.OK {
		t.Fatalf("Pack of %s: %d", name, e)
	}
	if most := len(told(len(b))) + len(b) + (len(b)+127)/128; len(out) > most {
		t.Errorf("Pack of %s: %d bytes of %d, not at most %d", name, len(out), len(b), most)
	}
	if !bytes.HasPrefix(out, told(len(b))) {
		t.Errorf("Pack of %s begins with %x", name, out[:min(len(out), 5)])
	}
	packed := bytes.Clone(out)
	again, e := file.Unpack(out)
	if e != api.OK || !bytes.Equal(again, b) {
		t.Errorf("Unpack of Pack of %s is another one: %d", name, e)
	}
	fill(again)
	if !bytes.Equal(b, was) || !bytes.Equal(out, packed) {
		t.Errorf("Pack or Unpack of %s changed an argument", name)
	}
	return out
}

func TestUnpackOfPack(t *testing.T) {
	for n := range 600 {
		packs(t, "noise", noise(1, n))
		packs(t, "one byte again and again", bytes.Repeat([]byte{7}, n))
		packs(t, "few bytes again and again", bytes.Repeat([]byte{1, 2, 3, 4, 5}, n)[:n])
	}
	for _, n := range []int{126, 127, 128, 129, 255, 256, 257, 16383, 16384, 65535, 65536, 65537, api.MaxFile - 1, api.MaxFile} {
		packs(t, "noise", noise(2, n))
		packs(t, "zeros", make([]byte, n))
	}
	for _, n := range []int{2, 3, 4, 5, 129, 130, 131, 132, 259, 260, 261, 262, 1000} { // repeats of so many bytes
		b := noise(3, n)
		for _, between := range []int{0, 1, 2, 126, 127, 128, 129} {
			packs(t, "a repeat", slices.Concat(b, noise(4, between), b, noise(5, between), b))
			packs(t, "a repeat from within", slices.Concat(noise(6, 50), b, noise(4, between), b[n/2:], b[:n/2], b))
		}
	}
	for _, distance := range []int{65533, 65534, 65535, 65536, 65537, 70000} {
		packs(t, "a far repeat", slices.Concat(noise(7, distance), noise(7, min(distance, 60000))))
	}
}

func TestUnpackOfPackOfAnyBytes(t *testing.T) {
	r := numbers(5)
	for range 3000 {
		letters := 1 + r.IntN(5)
		b := make([]byte, r.IntN(700))
		for i := range b {
			b[i] = byte(r.IntN(letters))
			if r.IntN(40) == 0 {
				b[i] = byte(r.IntN(256))
			}
		}
		packs(t, "any bytes", b)
	}
}

// Short repeats are where a careless packing becomes too large.
func TestPackOfShortRepeatsIsNotTooLarge(t *testing.T) {
	for _, n := range []int{2, 3, 4} {
		for _, between := range []int{1, 2, 3, 5, 60, 125, 126, 127, 128} {
			b := noise(8, 64*n)
			fresh := noise(9, 300*between)
			var all []byte
			for i := range 300 {
				all = slices.Concat(all, b[i%64*n:i%64*n+n], fresh[i*between:(i+1)*between])
			}
			packs(t, "short repeats", all)
		}
	}
}

func TestPackPacksByRepeats(t *testing.T) {
	few := noise(10, 100)
	for _, b := range [][]byte{make([]byte, 10000), bytes.Repeat(few, 100)} {
		if out := packs(t, "a long repeat", b); len(out) > len(b)/2 {
			t.Errorf("Pack makes %d bytes of %d that are repeats", len(out), len(b))
		}
	}
}

func TestPackErrors(t *testing.T) {
	for _, n := range []int{api.MaxFile + 1, 2 * api.MaxFile} {
		if out, e := file.Pack(make([]byte, n)); e != api.ErrLarge || len(out) != 0 {
			t.Errorf("Pack of %d bytes: %d bytes, %d", n, len(out), e)
		}
	}
}

func TestUnpackGivenBytes(t *testing.T) {
	abc := []byte("abc")
	long := noise(11, 65535)
	var parts [][]byte
	for c := range slices.Chunk(long, 128) {
		parts = append(parts, plain(c...))
	}
	far := slices.Concat(parts...)
	for _, c := range []struct {
		name     string
		in, want []byte
	}{
		{"nothing", told(0), nil},
		{"a byte", told(1, plain(0)), []byte{0}},
		{"the example", []byte{6, 0, 'a', 130, 0, 1}, []byte("aaaaaa")},
		{"several parts of plain bytes", told(4, plain(1), plain(2, 3), plain(4)), []byte{1, 2, 3, 4}},
		{"the longest part of plain bytes", told(128, plain(long[:128]...)), long[:128]},
		{"the shortest repeat", told(6, plain(abc...), back(3, 3)), []byte("abcabc")},
		{"the longest repeat", told(131, plain(9), back(130, 1)), bytes.Repeat([]byte{9}, 131)},
		{"a repeat that does not run into itself", told(7, plain(1, 2, 3, 4), back(3, 4)), []byte{1, 2, 3, 4, 1, 2, 3}},
		{"a repeat that runs into itself", told(8, plain(abc...), back(5, 2)), []byte("abcbcbcb")},
		{"a repeat of a repeat", told(10, plain(abc...), back(4, 1), back(3, 5)), []byte("abcccccccc")},
		{"a repeat before plain bytes", told(7, plain(abc...), back(3, 3), plain('x')), []byte("abcabcx")},
		{"the greatest distance", told(65538, far, back(3, 65535)), slices.Concat(long, long[:3])},
		{"the greatest distance, one further", told(65539, far, plain(1), back(3, 65535)), slices.Concat(long, []byte{1}, long[1:4])},
	} {
		was := bytes.Clone(c.in)
		out, e := file.Unpack(c.in)
		if e != api.OK || !bytes.Equal(out, c.want) {
			t.Errorf("Unpack, %s: %d bytes, %d", c.name, len(out), e)
		}
		fill(out)
		if !bytes.Equal(c.in, was) {
			t.Errorf("Unpack, %s: the argument has changed", c.name)
		}
	}
}

// wide returns packed bytes that are as long as they can be: each of n bytes is a part of its own, but for one part of two.
func wide(n int, two bool) []byte {
	var out []byte
	if two {
		out = append(out, 1, 0, 0)
		n -= 2
	}
	for range n {
		out = append(out, 0, 0)
	}
	return out
}

func TestUnpackLimits(t *testing.T) {
	const most = api.MaxFile - 1
	b := told(most, wide(most, true))
	if len(b) != 2*api.MaxFile {
		t.Fatalf("these are %d bytes", len(b))
	}
	if out, e := file.Unpack(b); e != api.OK || len(out) != most {
		t.Errorf("Unpack of 2 * MaxFile bytes: %d bytes, %d", len(out), e)
	}
	b = told(most, wide(most, false))
	if out, e := file.Unpack(b); len(b) != 2*api.MaxFile+1 || e != api.ErrLarge || len(out) != 0 {
		t.Errorf("Unpack of %d bytes: %d bytes, %d", len(b), len(out), e)
	}
	full, e := file.Pack(make([]byte, api.MaxFile))
	if e != api.OK {
		t.Fatal(e)
	}
	if out, e := file.Unpack(full); e != api.OK || len(out) != api.MaxFile {
		t.Errorf("Unpack of MaxFile bytes: %d bytes, %d", len(out), e)
	}
	longer := told(api.MaxFile+1, full[len(told(api.MaxFile)):], plain(0))
	if out, e := file.Unpack(longer); e != api.ErrLarge || len(out) != 0 {
		t.Errorf("Unpack of MaxFile+1 bytes: %d bytes, %d", len(out), e)
	}
}

func TestUnpackErrors(t *testing.T) {
	abc := plain('a', 'b', 'c')
	for _, c := range []struct {
		name string
		in   []byte
		want api.Errno
	}{
		{"nothing", nil, api.ErrBroken},
		{"a length that does not end", []byte{0x83}, api.ErrBroken},
		{"a length that needs fewer bytes", slices.Concat([]byte{0x83, 0}, abc), api.ErrBroken},
		{"a length of too many bytes", slices.Concat(bytes.Repeat([]byte{0xff}, 7), []byte{1}, abc), api.ErrBroken},
		{"a length and nothing", told(1), api.ErrBroken},
		{"a length of 0 and something", told(0, plain(1)), api.ErrBroken},
		{"a part that does not end", told(3, abc[:3]), api.ErrBroken},
		{"a part that has not begun", told(1, []byte{0}), api.ErrBroken},
		{"a repeat without a distance", told(6, abc, []byte{128}), api.ErrBroken},
		{"a repeat without half a distance", told(6, abc, []byte{128, 0}), api.ErrBroken},
		{"a distance of 0", told(6, abc, back(3, 0)), api.ErrBroken},
		{"a distance one too great", told(6, abc, back(3, 4)), api.ErrBroken},
		{"a distance far too great", told(6, abc, back(3, 65535)), api.ErrBroken},
		{"a repeat at first", told(3, back(3, 1)), api.ErrBroken},
		{"a repeat of nothing", told(3, back(3, 0)), api.ErrBroken},
		{"shorter than told", told(4, abc), api.ErrBroken},
		{"longer than told", told(2, abc), api.ErrBroken},
		{"a repeat longer than told", told(5, abc, back(3, 3)), api.ErrBroken},
		{"a repeat shorter than told", told(7, abc, back(3, 3)), api.ErrBroken},
		{"a part too many", told(3, abc, abc), api.ErrBroken},
		{"half a part too many", told(3, abc, []byte{5}), api.ErrBroken},
		{"too long, then back", told(3, abc, back(130, 3)), api.ErrBroken},
		{"a great length", told(api.MaxFile + 1), api.ErrLarge},
		{"a great length, and no parts", told(api.MaxFile+1, []byte{128}), api.ErrLarge}, // before ErrBroken
		{"the greatest length", told(1<<48-1, abc), api.ErrLarge},
		{"the greatest length that can be, too few bytes", told(api.MaxFile, abc), api.ErrBroken},
		{"many bytes, no length", bytes.Repeat([]byte{0xff}, 2*api.MaxFile), api.ErrBroken},
		{"too many bytes, no length", bytes.Repeat([]byte{0xff}, 2*api.MaxFile+1), api.ErrLarge}, // before ErrBroken
	} {
		if out, e := file.Unpack(c.in); e != c.want || len(out) != 0 {
			t.Errorf("Unpack, %s: %x, %d", c.name, out, e)
		}
	}
}

// Each beginning of packed bytes is broken.
func TestUnpackOfBeginnings(t *testing.T) {
	b := packs(t, "repeats", slices.Concat(noise(12, 40), noise(12, 40), make([]byte, 300), noise(13, 200)))
	for n := range b {
		if out, e := file.Unpack(b[:n]); e != api.ErrBroken || len(out) != 0 {
			t.Errorf("Unpack of the first %d of %d bytes: %d bytes, %d", n, len(b), len(out), e)
		}
	}
}
