package check

import (
	"slices"

	"wireglass/api"
	"wireglass/tree"
)

// Calls returns the set of pairs of protocols of which the first one has a goes or try of the second one.
func Calls(l []api.Proto) ([][2]string, api.Errno) {
	if e := tree.Validate(l); e != api.OK {
		return nil, e
	}
	var out [][2]string
	for from, row := range links(l, calls) {
		for to, is := range row {
			if is {
				out = append(out, [2]string{l[from].Name, l[to].Name})
			}
		}
	}
	slices.SortFunc(out, func(a, b [2]string) int { return slices.Compare(a[:], b[:]) })
	return slices.Compact(out), api.OK
}

// Rings returns the sets of protocols that call each other, and of those that call themselves.
func Rings(l []api.Proto) ([][]string, api.Errno) {
	if e := tree.Validate(l); e != api.OK {
		return nil, e
	}
	reach := links(l, calls).complete()
	var out [][]string
	for _, number := range reach.themselves() {
		out = append(out, reach.ring(l, number))
	}
	slices.SortFunc(out, slices.Compare)
	return slices.CompactFunc(out, slices.Equal), api.OK
}

// matrix tells of each two protocols, by their numbers, whether the first one calls the second one.
type matrix [][]bool

// links returns which protocols call which, as a function tells the names that a protocol's items call. A name stands for each protocol that has it.
func links(l []api.Proto, names func([]api.Item) []string) matrix {
	out := make(matrix, len(l))
	for from, p := range l {
		out[from] = make([]bool, len(l))
		for _, name := range names(p.Items) {
			for to, q := range l {
				out[from][to] = out[from][to] || q.Name == name
			}
		}
	}
	return out
}

// complete adds what is called over other protocols.
func (m matrix) complete() matrix {
	for over := range m {
		for from := range m {
			for to := range m {
				m[from][to] = m[from][to] || m[from][over] && m[over][to]
			}
		}
	}
	return m
}

// themselves returns the numbers of the protocols that call themselves.
func (m matrix) themselves() []int {
	var out []int
	for number := range m {
		if m[number][number] {
			out = append(out, number)
		}
	}
	return out
}

// ring returns the set of the names of protocols that one calls and that call it.
func (m matrix) ring(l []api.Proto, from int) []string {
	var out []string
	for to := range m {
		if m[from][to] && m[to][from] {
			out = append(out, l[to].Name)
		}
	}
	slices.Sort(out)
	return slices.Compact(out)
}

// calls returns the names of protocols that items call.
func calls(l []api.Item) []string {
	var out []string
	for _, i := range items(l) {
		out = append(out, called(i)...)
	}
	return out
}

// called returns the names of protocols that a single item calls.
func called(i api.Item) []string {
	switch i.Op {
	case api.IGoes:
		return []string{i.S}
	case api.ITry:
		return i.P
	}
	return nil
}

// Tables returns the set of the names of tables.
func Tables(l []api.Proto) ([]string, api.Errno) {
	if e := tree.Validate(l); e != api.OK {
		return nil, e
	}
	var out []string
	for _, p := range l {
		for _, i := range items(p.Items) {
			if i.Op == api.INext {
				out = append(out, i.S)
			}
		}
	}
	slices.Sort(out)
	return slices.Compact(out), api.OK
}

// Prefs returns the set of the names of preferences.
func Prefs(l []api.Proto) ([]string, api.Errno) {
	if e := tree.Validate(l); e != api.OK {
		return nil, e
	}
	return prefsOf(l), api.OK
}

func prefsOf(l []api.Proto) []string {
	var out []string
	for _, p := range l {
		for _, i := range items(p.Items) {
			out = append(out, words(i.X, api.XPref)...)
		}
	}
	slices.Sort(out)
	return slices.Compact(out)
}

// items returns items and all those in them, an item before those in it.
func items(l []api.Item) []api.Item {
	var out []api.Item
	for _, i := range l {
		out = append(out, i)
		for _, block := range i.B {
			out = append(out, items(block)...)
		}
	}
	return out
}

// words returns the texts of expressions, and of those in them, that have one operation.
func words(l []api.Expr, op int) []string {
	var out []string
	for _, x := range l {
		if x.Op == op {
			out = append(out, x.S)
		}
		out = append(out, words(x.L, op)...)
	}
	return out
}
