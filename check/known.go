package check

import (
	"maps"
	"slices"

	"wireglass/api"
	"wireglass/tree"
)

// scope has the names that are known, and of each one whether it is a number.
type scope map[string]bool

// learn goes through items and lets a function see each one, before those in it, and what is known at it. Behind it the scope has what is known behind the items.
func (s scope) learn(l []api.Item, see func(api.Item, scope)) {
	for _, i := range l {
		see(i, s)
		for _, block := range i.B {
			s.inner(i).learn(block, see)
		}
		switch i.Op {
		case api.IField:
			s[i.S] = !isSized(i)
		case api.ILet:
			s[i.S] = true
		}
	}
}

// inner returns the scope of a block of an item: a copy, if what the block tells is not known behind it.
func (s scope) inner(i api.Item) scope {
	if i.Op == api.IIf || i.Op == api.IChoose {
		return maps.Clone(s)
	}
	return s
}

// isSized tells whether a field is one of bytes or a text, which has no value in expressions.
func isSized(field api.Item) bool {
	return field.T == "bytes" || field.T == "text"
}

// Known returns the set of the names of numbers that are known at the end of a protocol.
func Known(l []api.Proto, name string) ([]string, api.Errno) {
	p, e := find(l, name)
	if e != api.OK {
		return nil, e
	}
	s := scope{}
	s.learn(p.Items, func(api.Item, scope) {})
	maps.DeleteFunc(s, func(_ string, number bool) bool { return !number })
	return slices.Sorted(maps.Keys(s)), api.OK
}

// find returns the first protocol of a name, of valid descriptions.
func find(l []api.Proto, name string) (api.Proto, api.Errno) {
	if e := tree.Validate(l); e != api.OK {
		return api.Proto{}, e
	}
	at := slices.IndexFunc(l, func(p api.Proto) bool { return p.Name == name })
	if at < 0 {
		return api.Proto{}, api.ErrNone
	}
	return l[at], api.OK
}
