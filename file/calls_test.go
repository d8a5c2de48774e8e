package file_test

import (
	"testing"

	"wireglass/api"
	"wireglass/capt"
	"wireglass/file"
)

// The functions below call those of the package, and make sure that no call changes its arguments.

func kept(what string, c api.Capture, call func()) {
	was := capt.Copy(c)
	call()
	if !capt.Same(c, was) {
		panic(what + " changed its argument")
	}
}

func keptAll(what string, l []api.Capture, call func()) {
	var was []api.Capture
	for _, c := range l {
		was = append(was, capt.Copy(c))
	}
	call()
	for i, c := range l {
		if !capt.Same(c, was[i]) {
			panic(what + " changed its argument")
		}
	}
}

func mergeOf(l []api.Capture, drifts []int) (out api.Capture, e api.Errno) {
	keptAll("Merge", l, func() { out, e = file.Merge(l, drifts) })
	return out, e
}

func joinOf(l []api.Capture) (out api.Capture, e api.Errno) {
	keptAll("Join", l, func() { out, e = file.Join(l) })
	return out, e
}

func shiftOf(c api.Capture, by int) (out api.Capture, e api.Errno) {
	kept("Shift", c, func() { out, e = file.Shift(c, by) })
	return out, e
}

func driftOf(c api.Capture, at1, true1, at2, true2 int) (out api.Capture, e api.Errno) {
	kept("Drift", c, func() { out, e = file.Drift(c, at1, true1, at2, true2) })
	return out, e
}

func rangeOf(c api.Capture, from, to int) (out api.Capture, e api.Errno) {
	kept("Range", c, func() { out, e = file.Range(c, from, to) })
	return out, e
}

func pickOf(c api.Capture, l []int) (out api.Capture, e api.Errno) {
	kept("Pick", c, func() { out, e = file.Pick(c, l) })
	return out, e
}

func splitOf(c api.Capture, kind, n int) (out []api.Capture, e api.Errno) {
	kept("Split", c, func() { out, e = file.Split(c, kind, n) })
	return out, e
}

func doublesOf(c api.Capture, window, within int) (out []int, e api.Errno) {
	kept("Doubles", c, func() { out, e = file.Doubles(c, window, within) })
	return out, e
}

func indexOf(c api.Capture) (out [][2]int, e api.Errno) {
	kept("Index", c, func() { out, e = file.Index(c) })
	return out, e
}

// Results are new memory: what is written into them is in no argument, and the other way round.
func TestResultsAreNewMemory(t *testing.T) {
	for _, f := range []struct {
		name string
		call func(c api.Capture) ([]api.Capture, api.Errno)
	}{
		{"Merge", one(func(c api.Capture) (api.Capture, api.Errno) { return file.Merge([]api.Capture{c}, []int{0}) })},
		{"Merge of equal ones", one(func(c api.Capture) (api.Capture, api.Errno) { return file.Merge([]api.Capture{c, c}, []int{0, 0}) })},
		{"Join", one(func(c api.Capture) (api.Capture, api.Errno) { return file.Join([]api.Capture{c}) })},
		{"Join of equal ones", one(func(c api.Capture) (api.Capture, api.Errno) { return file.Join([]api.Capture{c, c}) })},
		{"Shift", one(func(c api.Capture) (api.Capture, api.Errno) { return file.Shift(c, 0) })},
		{"Drift", one(func(c api.Capture) (api.Capture, api.Errno) { return file.Drift(c, 0, 0, 1, 1) })},
		{"Range", one(func(c api.Capture) (api.Capture, api.Errno) { return file.Range(c, 0, api.MaxTime) })},
		{"Pick", one(func(c api.Capture) (api.Capture, api.Errno) { return file.Pick(c, []int{0, 1, 2, 3}) })},
		{"Split", func(c api.Capture) ([]api.Capture, api.Errno) { return file.Split(c, 0, 2) }},
		{"Split into one", func(c api.Capture) ([]api.Capture, api.Errno) { return file.Split(c, 0, 100) }},
	} {
		c := rich()
		out, e := f.call(c)
		if e != api.OK {
			t.Fatalf("%s: %d", f.name, e)
		}
		for i := range out {
			var was []api.Capture
			for _, o := range out {
				was = append(was, capt.Copy(o))
			}
			spoil(out[i])
			for k := range out {
				if k != i && !capt.Same(out[k], was[k]) {
					t.Errorf("%s: the results %d and %d share memory", f.name, i, k)
				}
			}
			if !capt.Same(c, rich()) {
				t.Fatalf("%s: a result shares memory with the argument", f.name)
			}
			copy(out, was)
		}
	}
}

// one makes a function with one result one with several.
func one(f func(c api.Capture) (api.Capture, api.Errno)) func(c api.Capture) ([]api.Capture, api.Errno) {
	return func(c api.Capture) ([]api.Capture, api.Errno) {
		out, e := f(c)
		return []api.Capture{out}, e
	}
}
