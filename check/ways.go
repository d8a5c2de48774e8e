package check

import (
	"slices"

	"wireglass/api"
)

// mostBits is the greatest number of bits that Least tells.
const mostBits = 1000000

// mayStick tells whether a turn of a loop may take nothing, more often than it may.
func mayStick(loop api.Item) bool {
	if n, ok := constant(loop.X); ok && n <= freeTurns {
		return false
	}
	return passes(loop.B[0], func(i api.Item) bool {
		switch i.Op {
		case api.IWithin, api.IGoes, api.INext, api.ITry:
			return false
		}
		return !takes(i)
	})
}

// early returns the names of protocols that some way through items calls before it takes anything.
func early(l []api.Item) []string {
	var out []string
	passes(l, func(i api.Item) bool {
		out = append(out, called(i)...)
		return !takes(i)
	})
	return out
}

// passes tells whether some way through items has none that a function refuses. The function sees just the items that such a way comes to.
func passes(l []api.Item, free func(api.Item) bool) bool {
	var through func([]api.Item) bool
	around := func(i api.Item) bool {
		some := false
		for _, block := range open(i) {
			// Each block has to be gone through, as the function may want to see what is in it.
			some = through(block) || some
		}
		return some || maySkip(i)
	}
	through = func(l []api.Item) bool {
		for _, i := range l {
			if !free(i) || !around(i) {
				return false
			}
		}
		return true
	}
	return through(l)
}

// open returns the blocks of an item that a way may go through.
func open(i api.Item) [][]api.Item {
	if n, ok := constant(i.X); ok && n == 0 && i.Op == api.IRepeat {
		return nil
	}
	return i.B
}

// maySkip tells whether a way may go past an item without going through one of its blocks.
func maySkip(i api.Item) bool {
	switch i.Op {
	case api.IIf:
		return len(i.B) == 1
	case api.IChoose:
		return len(i.B) == len(i.C)
	case api.IRepeat:
		n, ok := constant(i.X)
		return !ok || n == 0
	case api.IWithin, api.ISub:
		return false
	}
	return true
}

// takes tells whether an item is a field that surely takes bits.
func takes(i api.Item) bool {
	return i.Op == api.IField && fieldBits(i) > 0
}

// fieldBits returns how many bits a field surely takes.
func fieldBits(field api.Item) int {
	if !isSized(field) {
		return field.N
	}
	n, _ := constant(field.X)
	return 8 * n
}

// constant returns the number of an item's expression, and true; or 0 and false, if it is no constant or there is none.
func constant(l []api.Expr) (int, bool) {
	if len(l) == 1 && l[0].Op == api.XNum {
		return l[0].N, true
	}
	return 0, false
}

// Least returns the least number of bits that a way through a protocol takes.
func Least(l []api.Proto, name string) (int, api.Errno) {
	p, e := find(l, name)
	if e != api.OK {
		return 0, e
	}
	if len(wrong(l, prefsOf(l))) > 0 {
		return 0, api.ErrRule
	}
	through, stopped := least(p.Items)
	return min(through, stopped), api.OK
}

// least returns the least numbers of bits of the ways that go through items, and of those that stop in them (mostBits if there are none). Neither is more than mostBits.
func least(l []api.Item) (through, stopped int) {
	stopped = mostBits
	for _, i := range l {
		more, stop := leastOf(i)
		stopped = min(stopped, through+stop)
		through = min(through+more, mostBits)
	}
	return through, stopped
}

// leastOf does so for one item.
func leastOf(i api.Item) (through, stopped int) {
	switch i.Op {
	case api.IField:
		return fieldBits(i), mostBits
	case api.IStop:
		return 0, 0
	case api.IWithin:
		// What stands in it counts nothing, in front of a stop too. Whether there is a stop cannot be told from least, whose numbers end at mostBits.
		if stops(i.B[0]) {
			return 0, 0
		}
		return 0, mostBits
	}
	through, stopped = mostBits, mostBits
	for _, block := range open(i) {
		t, s := least(block)
		through, stopped = min(through, t), min(stopped, s)
	}
	if n, ok := constant(i.X); ok && i.Op == api.IRepeat {
		return through * min(n, mostBits), stopped
	}
	if maySkip(i) {
		return 0, stopped
	}
	return through, stopped
}

// stops tells whether some way stops in items.
func stops(l []api.Item) bool {
	return slices.ContainsFunc(l, func(i api.Item) bool {
		return i.Op == api.IStop || slices.ContainsFunc(open(i), stops)
	})
}

// Work returns how many items, at most, a walk does for a packet of so many bytes.
func Work(l []api.Proto, name string, bytes int) (int, api.Errno) {
	if _, e := find(l, name); e != api.OK {
		return 0, e
	}
	if bytes < 0 || bytes > api.MaxPacket {
		return 0, api.ErrArg
	}
	if len(wrong(l, prefsOf(l))) > 0 {
		return 0, api.ErrRule
	}
	parts, tries := len(l), 0
	for _, p := range l {
		for _, i := range items(p.Items) {
			parts++
			tries = max(tries, len(i.P))
		}
	}
	return (8*bytes + 66) * (parts + 1) * (api.MaxDeep + 1) * api.MaxNest * (tries + 1), api.OK
}
