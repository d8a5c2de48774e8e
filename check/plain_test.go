package check_test

import (
	"fmt"
	"math/rand"
	"slices"
	"testing"

	"wireglass/api"
	"wireglass/check"
	"wireglass/tree"
)

// way is a way through items, told step by step: what it takes and calls on it, and whether it stops there.
type way struct {
	steps   []step
	stopped bool
}

// step is an item that a way comes to, and the number of withins that it stands in.
type step struct {
	item api.Item
	in   int
}

const mostWays = 600

// turns is how often a loop is done at most whose count is no constant.
type turns int

// ways returns all ways through items that stand in so many withins; or false, if there are too many.
func (t turns) ways(l []api.Item, in int) ([]way, bool) {
	out := []way{{}}
	for _, i := range l {
		parts, ok := t.waysOf(i, in)
		if !ok {
			return nil, false
		}
		out = after(out, parts)
		if len(out) > mostWays {
			return nil, false
		}
	}
	return out, true
}

// after returns the ways that go on with others, but for those that have stopped.
func after(first, then []way) []way {
	var out []way
	for _, a := range first {
		if a.stopped {
			out = append(out, a)
			continue
		}
		for _, b := range then {
			out = append(out, way{slices.Concat(a.steps, b.steps), b.stopped})
		}
	}
	return out
}

func (t turns) waysOf(i api.Item, in int) ([]way, bool) {
	here := []way{{steps: []step{{i, in}}}}
	var blocks []way
	if i.Op == api.IWithin {
		in++
	}
	for _, b := range i.B {
		l, ok := t.ways(b, in)
		if !ok {
			return nil, false
		}
		blocks = append(blocks, l...)
	}
	switch i.Op {
	case api.IStop:
		return append(here, way{here[0].steps, true}), true
	case api.IIf:
		if len(i.B) == 2 {
			return after(here, blocks), true
		}
	case api.IChoose:
		if len(i.B) == len(i.C)+1 {
			return after(here, blocks), true
		}
	case api.ISub, api.IWithin:
		return after(here, blocks), true
	case api.IRepeat:
		if n := count(i); n > 0 {
			out := here
			for range n {
				out = after(out, blocks)
				if len(out) > mostWays {
					return nil, false
				}
			}
			return out, true
		}
	}
	out, last, most := here, here, t
	if i.Op == api.IIf || i.Op == api.IChoose {
		most = 1
	} else if count(i) == 0 {
		most = 0
	}
	for range most {
		last = after(last, blocks)
		out = append(out, last...)
	}
	return out, len(out) <= mostWays
}

// count returns the constant in an item, or -1.
func count(i api.Item) int {
	if len(i.X) == 1 && i.X[0].Op == api.XNum {
		return i.X[0].N
	}
	return -1
}

// fieldOf returns how many bits a step takes for sure by being a field.
func fieldOf(s step) int {
	switch {
	case s.item.Op != api.IField:
		return 0
	case s.item.T == "u" || s.item.T == "i":
		return s.item.N
	}
	return max(0, 8*count(s.item))
}

// plainSticks finds out whether a loop is against rule 5, by all ways.
func plainSticks(loop api.Item) (bool, bool) {
	if n := count(loop); n >= 0 && n <= 64 {
		return false, true
	}
	l, ok := turns(1).ways(loop.B[0], 0)
	return slices.ContainsFunc(l, func(w way) bool {
		return !w.stopped && !slices.ContainsFunc(w.steps, func(s step) bool {
			return fieldOf(s) > 0 || slices.Contains([]int{api.IWithin, api.IGoes, api.INext, api.ITry}, s.item.Op)
		})
	}), ok
}

// plainEarly returns the names that ways call before they take anything.
func plainEarly(l []api.Item) ([]string, bool) {
	all, ok := turns(1).ways(l, 0)
	var out []string
	for _, w := range all {
		for _, s := range w.steps {
			if fieldOf(s) > 0 {
				break
			}
			if s.item.Op == api.IGoes {
				out = append(out, s.item.S)
			}
			out = append(out, s.item.P...)
		}
	}
	return out, ok
}

// plainLeast returns the least bits of all ways. What stands in a within counts nothing.
func plainLeast(l []api.Item) (int, bool) {
	all, ok := turns(2).ways(l, 0)
	least := 1000000
	for _, w := range all {
		bits := 0
		for _, s := range w.steps {
			if s.in == 0 {
				bits += fieldOf(s)
			}
		}
		least = min(least, bits)
	}
	return least, ok
}

// plain finds what is wrong in one protocol.
type plain struct {
	proto, item int
	protos      []string
	prefs       []string
	found       map[[3]int]bool
	sure        bool
}

func (p *plain) tell(rule, item int) { p.found[[3]int{rule, p.proto, item}] = true }

// names returns the names of expressions of an operation.
func names(l []api.Expr, op int) []string {
	var out []string
	for _, x := range l {
		if x.Op == op {
			out = append(out, x.S)
		}
		out = append(out, names(x.L, op)...)
	}
	return out
}

// told is a name that was told, and whether it is a number.
type told struct {
	name   string
	number bool
}

// newest tells whether the newest one of a name is a number.
func newest(l []told, name string) bool {
	for _, x := range slices.Backward(l) {
		if x.name == name {
			return x.number
		}
	}
	return false
}

// items looks at items, where names were told, in a loop or not, and returns the names that were told behind them.
func (p *plain) items(l []api.Item, known []told, loop bool) []told {
	for at, i := range l {
		number := p.item
		p.item++
		for _, s := range names(i.X, api.XName) {
			if !newest(known, s) {
				p.tell(2, number)
			}
		}
		for _, s := range names(i.X, api.XPref) {
			if !slices.Contains(p.prefs, s) {
				p.tell(4, number)
			}
		}
		if i.Op == api.IGoes && !slices.Contains(p.protos, i.S) || slices.ContainsFunc(i.P, func(s string) bool { return !slices.Contains(p.protos, s) }) {
			p.tell(3, number)
		}
		ends := func(i api.Item) bool { return i.Op == api.INext || i.Op == api.ITry }
		if ends(i) && loop || slices.ContainsFunc(l[:at], ends) {
			p.tell(6, number)
		}
		if i.Op == api.IRepeat || i.Op == api.IUntil {
			sticks, ok := plainSticks(i)
			p.sure = p.sure && ok
			if sticks {
				p.tell(5, number)
			}
		}
		for _, b := range i.B {
			inner := p.items(b, slices.Clone(known), loop || i.Op == api.IRepeat || i.Op == api.IUntil)
			if i.Op != api.IIf && i.Op != api.IChoose {
				known = inner
			}
		}
		if i.Op == api.IField || i.Op == api.ILet {
			known = append(known, told{i.S, i.T != "bytes" && i.T != "text"})
		}
	}
	return known
}

// plainCheck is Check by a second reading of the chapter, and whether it is sure.
func plainCheck(l []api.Proto, prefs []string) ([][3]int, bool) {
	p := plain{prefs: prefs, found: map[[3]int]bool{}, sure: true}
	for _, x := range l {
		p.protos = append(p.protos, x.Name)
	}
	calls := map[int][]string{}
	for at, x := range l {
		p.proto, p.item = at, 0
		p.items(x.Items, nil, false)
		if slices.Contains(p.protos[:at], x.Name) {
			p.tell(1, 0)
		}
		early, ok := plainEarly(x.Items)
		p.sure = p.sure && ok
		calls[at] = early
	}
	for at := range l {
		seen := map[int]bool{}
		var visit func(int)
		visit = func(from int) {
			for to, name := range p.protos {
				if slices.Contains(calls[from], name) && !seen[to] {
					seen[to] = true
					visit(to)
				}
			}
		}
		visit(at)
		if seen[at] {
			p.proto = at
			p.tell(7, 0)
		}
	}
	var out [][3]int
	for x := range p.found {
		out = append(out, x)
	}
	slices.SortFunc(out, func(a, b [3]int) int { return slices.Compare(a[:], b[:]) })
	return out, p.sure
}

// maker makes random descriptions.
type maker struct{ *rand.Rand }

func (m maker) one(l ...string) string { return l[m.Intn(len(l))] }

func (m maker) expr() string {
	return m.one("0", "1", "2", "3", "65", "1 + 1", "x", "y", "z", "@p", "@q", "x + @p", "left", "-y", "here")
}

func (m maker) proto() string { return m.one("a", "b", "c", "d") }

// block returns a block of up to so many levels.
func (m maker) block(levels int) string {
	out := ""
	for range m.Intn(4) {
		out += m.item(levels)
	}
	return "{ " + out + " }"
}

func (m maker) item(levels int) string {
	kind := m.Intn(16)
	if levels == 0 {
		kind = m.Intn(9)
	}
	x, name := m.expr(), m.one("x", "y", "z")
	switch kind {
	case 0, 1:
		return name + m.one(": u8; ", ": i3; ", ": u1; ")
	case 2, 3:
		return name + m.one(": bytes(", ": text(") + x + "); "
	case 4:
		return "let " + name + " = " + x + "; "
	case 5:
		return m.one("check "+x+": \"n\"; ", "stop "+x+"; ")
	case 6:
		return "goes " + m.proto() + "; "
	case 7:
		return m.one("try "+m.proto()+", "+m.proto()+"; ", "next t("+x+"); ")
	case 8:
		return "stop " + x + "; "
	case 9:
		return "if (" + x + ") " + m.block(levels-1)
	case 10:
		return "if (" + x + ") " + m.block(levels-1) + " else " + m.block(levels-1)
	case 11:
		return "choose (" + x + ") { " + m.one("", "case 1: "+m.block(levels-1)) + m.one("", "default: "+m.block(levels-1)) + " } "
	case 12:
		return "repeat (" + x + ") " + m.block(levels-1)
	case 13:
		return "until " + m.block(levels-1)
	case 14:
		return "within (" + x + ") " + m.block(levels-1)
	}
	return "sub s " + m.block(levels-1)
}

func TestPlain(t *testing.T) {
	m := maker{rand.New(rand.NewSource(6))}
	sure, right, rules := 0, 0, map[int]int{}
	for range 15000 {
		source := ""
		for range 1 + m.Intn(3) {
			source += "proto " + m.proto() + " " + m.block(1+m.Intn(3)) + " "
		}
		l := parse(t, source)
		want, ok := plainCheck(l, []string{"p"})
		if !ok {
			continue
		}
		sure++
		got, e := check.Check(l, []string{"p"})
		if !slices.Equal(got, want) || e != api.OK {
			t.Fatalf("Check of %q: %v, %d; not %v", source, got, e, want)
		}
		for _, x := range got {
			rules[x[0]]++
		}
		least, e := check.Least(l, l[0].Name)
		if slices.ContainsFunc(want, func(x [3]int) bool { return x[0] != 4 }) != (e == api.ErrRule) {
			t.Fatalf("Least of %q: %d, %d", source, least, e)
		}
		if e != api.OK {
			continue
		}
		right++
		if want, ok := plainLeast(l[0].Items); ok && least != want {
			t.Fatalf("Least of %q: %d, not %d", source, least, want)
		}
	}
	if sure < 10000 || right < 1000 || slices.ContainsFunc([]int{1, 2, 3, 4, 5, 6, 7}, func(rule int) bool { return rules[rule] < 300 }) {
		t.Errorf("too little is tried: %d, %d, %v", sure, right, rules)
	}
}

func TestUnchanged(t *testing.T) {
	source := "proto a { x: u8; until { if (x) { y: u8; try b; } else { stop 1; } } try b, a; } proto b { let q = @p; goes a; goes b; next t(q); }"
	l, prefs := parse(t, source), []string{"q", "p"}
	first := all(l, prefs)
	if !tree.Same(l, parse(t, source)) || !slices.Equal(prefs, []string{"q", "p"}) || all(l, prefs) != first {
		t.Error("an argument is changed, or the results are")
	}
}

// all returns the results of all functions.
func all(l []api.Proto, prefs []string) string {
	a, _ := check.Check(l, prefs)
	b, _ := check.Calls(l)
	c, _ := check.Rings(l)
	d, _ := check.Known(l, "a")
	e, _ := check.Tables(l)
	f, _ := check.Prefs(l)
	return fmt.Sprint(a, b, c, d, e, f)
}
