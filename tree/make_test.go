package tree_test

import (
	"math/rand"
	"reflect"
	"strings"
	"testing"

	"wireglass/api"
	"wireglass/tree"
)

func num(n int) api.Expr               { return api.Expr{Op: api.XNum, N: n} }
func name(s string) api.Expr           { return api.Expr{Op: api.XName, S: s} }
func pref(s string) api.Expr           { return api.Expr{Op: api.XPref, S: s} }
func left() api.Expr                   { return api.Expr{Op: api.XLeft} }
func here() api.Expr                   { return api.Expr{Op: api.XHere} }
func un(s string, x api.Expr) api.Expr { return api.Expr{Op: api.XUn, S: s, L: []api.Expr{x}} }
func bin(x api.Expr, s string, y api.Expr) api.Expr {
	return api.Expr{Op: api.XBin, S: s, L: []api.Expr{x, y}}
}
func cond(x, y, z api.Expr) api.Expr { return api.Expr{Op: api.XCond, L: []api.Expr{x, y, z}} }

func some(l ...api.Item) []api.Item       { return l }
func blocks(l ...[]api.Item) [][]api.Item { return l }

// number returns a field u or i.
func number(s, kind string, bits int) api.Item {
	return api.Item{Op: api.IField, S: s, T: kind, N: bits}
}

// low returns a field with its lowest byte first.
func low(i api.Item) api.Item {
	i.Low = true
	return i
}

// unit returns a field with a unit.
func unit(i api.Item, s string) api.Item {
	i.U = s
	return i
}

// sized returns a field bytes or text.
func sized(s, kind string, x api.Expr) api.Item {
	return api.Item{Op: api.IField, S: s, T: kind, X: []api.Expr{x}}
}
func let(s string, x api.Expr) api.Item {
	return api.Item{Op: api.ILet, S: s, X: []api.Expr{x}}
}
func check(x api.Expr, note string, grave int) api.Item {
	return api.Item{Op: api.ICheck, S: note, N: grave, X: []api.Expr{x}}
}
func stop(x api.Expr) api.Item { return api.Item{Op: api.IStop, X: []api.Expr{x}} }
func choice(x api.Expr, b ...[]api.Item) api.Item {
	return api.Item{Op: api.IIf, X: []api.Expr{x}, B: b}
}
func choose(x api.Expr, cases []int, b ...[]api.Item) api.Item {
	return api.Item{Op: api.IChoose, X: []api.Expr{x}, C: cases, B: b}
}
func repeat(x api.Expr, b ...api.Item) api.Item {
	return api.Item{Op: api.IRepeat, X: []api.Expr{x}, B: blocks(b)}
}
func until(b ...api.Item) api.Item { return api.Item{Op: api.IUntil, B: blocks(b)} }
func within(x api.Expr, b ...api.Item) api.Item {
	return api.Item{Op: api.IWithin, X: []api.Expr{x}, B: blocks(b)}
}
func sub(s string, b ...api.Item) api.Item { return api.Item{Op: api.ISub, S: s, B: blocks(b)} }
func goes(s string) api.Item               { return api.Item{Op: api.IGoes, S: s} }
func next(s string, x api.Expr) api.Item {
	return api.Item{Op: api.INext, S: s, X: []api.Expr{x}}
}
func try(l ...string) api.Item { return api.Item{Op: api.ITry, P: l} }

// proto returns a protocol as the only one.
func proto(s string, l ...api.Item) []api.Proto { return []api.Proto{{Name: s, Items: l}} }

// operators are the operators of two operands, from those that bind least on; a blank is between those of a line of the chapter.
var operators = []string{"||", "&&", "== != < <= > >=", "|", "^", "&", "<< >>", "+ -", "* / %"}

// strength returns how much an operator binds.
func strength(s string) int {
	for i, l := range operators {
		for _, x := range strings.Fields(l) {
			if x == s {
				return i
			}
		}
	}
	return -1
}

// alike tells whether values are the same, nil and empty slices being alike.
func alike(a, b any) bool {
	return alikeValues(reflect.ValueOf(a), reflect.ValueOf(b))
}

func alikeValues(a, b reflect.Value) bool {
	switch a.Kind() {
	case reflect.Slice:
		if a.Len() != b.Len() {
			return false
		}
		for i := range a.Len() {
			if !alikeValues(a.Index(i), b.Index(i)) {
				return false
			}
		}
		return true
	case reflect.Struct:
		for i := range a.NumField() {
			if !alikeValues(a.Field(i), b.Field(i)) {
				return false
			}
		}
		return true
	}
	return a.Equal(b)
}

// parses makes sure that a source has just these descriptions.
func parses(t *testing.T, s string, tokens int, want []api.Proto) {
	t.Helper()
	l, n, e := tree.Parse(s)
	if !alike(l, want) || n != tokens || e != api.OK {
		t.Errorf("Parse of %q: %v, %d, %d; not %v, %d", s, l, n, e, want, tokens)
	}
}

// parsesExpr makes sure that a source is just this expression.
func parsesExpr(t *testing.T, s string, want api.Expr) {
	t.Helper()
	if x, _, e := tree.ParseExpr(s); !alike(x, want) || e != api.OK {
		t.Errorf("ParseExpr of %q: %v, %d; not %v", s, x, e, want)
	}
}

// fails makes sure that Parse fails, with a second result.
func fails(t *testing.T, s string, at int, want api.Errno) {
	t.Helper()
	if l, n, e := tree.Parse(s); len(l) != 0 || n != at || e != want {
		t.Errorf("Parse of %.200q: %v, %d, %d; not %d, %d", s, l, n, e, at, want)
	}
}

// failsExpr makes sure that ParseExpr fails, with a second result.
func failsExpr(t *testing.T, s string, at int, want api.Errno) {
	t.Helper()
	if x, n, e := tree.ParseExpr(s); !alike(x, api.Expr{}) || n != at || e != want {
		t.Errorf("ParseExpr of %.200q: %v, %d, %d; not %d, %d", s, x, n, e, at, want)
	}
}

// maker makes random descriptions.
type maker struct{ *rand.Rand }

// one returns one of texts.
func (m maker) one(l ...string) string { return l[m.Intn(len(l))] }

func (m maker) name() string {
	return m.one("a", "b", "n", "u", "i", "u16", "i8", "ip.src", "_", "x.0", "Left", "abcdefghijklmnop", "proto_")
}

func (m maker) number() int {
	return []int{0, 1, 2, 10, 255, 65536, 1<<48 - 1}[m.Intn(7)]
}

func (m maker) text() string {
	return m.one("", "odd", "m s", "a\"b\\c\n\x00\xff", "é", strings.Repeat("x", 40))
}

// expr returns an expression of at most so many levels.
func (m maker) expr(levels int) api.Expr {
	kind := m.Intn(9)
	if levels <= 1 {
		kind = m.Intn(5)
	}
	switch kind {
	case 0:
		return num(m.number())
	case 1, 2:
		return name(m.name())
	case 3:
		return pref(m.name())
	case 4:
		return []api.Expr{left(), here()}[m.Intn(2)]
	case 5:
		return un(m.one("-", "!", "~"), m.expr(levels-1))
	case 6:
		return cond(m.expr(levels-1), m.expr(levels-1), m.expr(levels-1))
	}
	all := strings.Fields(strings.Join(operators, " "))
	return bin(m.expr(levels-1), m.one(all...), m.expr(levels-1))
}

// block returns up to so many items of at most so many levels.
func (m maker) block(most, levels int) []api.Item {
	var out []api.Item
	for range m.Intn(most + 1) {
		out = append(out, m.item(levels))
	}
	return out
}

// item returns an item of at most so many levels.
func (m maker) item(levels int) api.Item {
	kind := m.Intn(14)
	if levels <= 2 {
		kind = m.Intn(8)
	}
	x := m.expr(min(4, levels-1))
	inner := func() []api.Item { return m.block(2, levels-1) }
	switch kind {
	case 0:
		return unit(number(m.name(), m.one("u", "i"), 1+m.Intn(48)), m.text())
	case 1:
		return low(number(m.name(), m.one("u", "i"), 8*(1+m.Intn(6))))
	case 2:
		return unit(sized(m.name(), m.one("bytes", "text"), x), m.text())
	case 3:
		return let(m.name(), x)
	case 4:
		return check(x, m.text(), m.Intn(5))
	case 5:
		return []api.Item{goes(m.name()), stop(x)}[m.Intn(2)]
	case 6:
		return next(m.name(), x)
	case 7:
		return []api.Item{try(m.name()), try(m.name(), m.name(), m.name())}[m.Intn(2)]
	case 8:
		return choice(x, inner())
	case 9:
		return choice(x, inner(), inner())
	case 10:
		cases := [][]int{nil, {5}, {2, 1}, {1<<48 - 1, 0}}[m.Intn(4)]
		out := choose(x, cases)
		for range len(cases) + m.Intn(2) {
			out.B = append(out.B, inner())
		}
		return out
	case 11:
		return []api.Item{repeat(x, inner()...), within(x, inner()...)}[m.Intn(2)]
	case 12:
		return until(inner()...)
	}
	return sub(m.name(), inner()...)
}

// protos returns up to so many descriptions, of at most 5 levels.
func (m maker) protos(most int) []api.Proto {
	var out []api.Proto
	for range m.Intn(most + 1) {
		out = append(out, api.Proto{Name: m.name(), Items: m.block(4, 4)})
	}
	return out
}
