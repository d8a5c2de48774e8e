package tree_test

import (
	"fmt"
	"math"
	"math/rand"
	"slices"
	"strings"
	"testing"

	"wireglass/api"
	"wireglass/tree"
)

func TestSize(t *testing.T) {
	for _, c := range []struct {
		s             string
		nodes, levels int
	}{
		{"", 0, 0}, {"proto a {}", 1, 1}, {"proto a {} proto b {}", 2, 1}, {"proto a { len: u8; body: bytes(len); }", 4, 3}, {"proto a { x: u8; } proto b { y: u8; }", 4, 2},
		{"proto a { let x = 1 + 2 * 3; }", 7, 5}, {"proto a { stop (((1))); }", 3, 3}, {"proto a { try b, c, d; goes e; }", 3, 2}, {"proto a { if (1) {} else {} }", 3, 3}, {"proto a { if (1) {} else { until {} } }", 4, 3},
		{"proto a { choose (1) { case 1: {} case 2: { x: u8; } default: { sub s { y: bytes(-1); } } } }", 8, 6}, {"proto a { next t(@p); check left: \"a\"; }", 5, 3},
	} {
		l, _, e := tree.Parse(c.s)
		if n, m, f := tree.Size(l); n != c.nodes || m != c.levels || e != api.OK || f != api.OK {
			t.Errorf("Size of %q: %d, %d, %d, %d; not %d, %d", c.s, n, m, e, f, c.nodes, c.levels)
		}
	}
	full := proto("a", slices.Repeat(some(goes("a")), 798)...)
	full[0].Items = append(full[0].Items, goes("a"))
	if n, m, e := tree.Size(full); n != 800 || m != 2 || e != api.OK {
		t.Errorf("Size of as many nodes as there may be: %d, %d, %d", n, m, e)
	}
	if n, m, e := tree.Size(proto("a", inside(12, goes("a")))); n != 14 || m != 14 || e != api.OK {
		t.Errorf("Size of as many levels as there may be: %d, %d, %d", n, m, e)
	}
}

func TestNames(t *testing.T) {
	for s, want := range map[string]string{
		"": "", "proto a {}": "", "proto a { x: u8; }": "x", "proto a { z: u8; y: i16; x: bytes(q); w: text(1); }": "w x y z", "proto a { let v = w + @p; }": "v", "proto a { sub s {} }": "s", "proto a { sub s { x: u8; sub r { let u = 1; } } }": "r s u x",
		"proto a { check x: \"note\"; goes b; next t(k); try c, d; stop e; }": "", "proto a { x: u8; x: u8; let x = 1; sub x {} } proto x { x: u8; }": "x", "proto a { b: u8 \"unit\"; } proto c { a: u8; }": "a b",
		"proto a { if (q) { b: u8; } else { c: u8; } }": "b c", "proto a { choose (q) { case 1: { b: u8; } case 2: { until { c: u8; } } default: { d: u8; } } }": "b c d", "proto a { repeat (1) { b: u8; } within (2) { let a = 1; } }": "a b",
		"proto a { B: u8; b: u8; _: u8; a.b: u8; a: u8; a_: u8; a0: u8; ab: u8; }": "B _ a a.b a0 a_ ab b",
	} {
		l, _, e := tree.Parse(s)
		if names, f := tree.Names(l); strings.Join(names, " ") != want || e != api.OK || f != api.OK {
			t.Errorf("Names of %q: %q, %d, %d; not %q", s, names, e, f, want)
		}
	}
}

func TestSame(t *testing.T) {
	if !tree.Same(nil, []api.Proto{}) || !tree.Same([]api.Proto{}, nil) || !tree.Same(proto("a"), []api.Proto{{Name: "a", Items: []api.Item{}}}) {
		t.Error("nil and empty descriptions are not the Same")
	}
	empty := []api.Item{{P: []string{}, C: []int{}, X: []api.Expr{}, B: [][]api.Item{}}}
	if !tree.Same(proto("a", empty...), proto("a", api.Item{})) || !tree.Same(proto("a", api.Item{B: blocks(nil)}), proto("a", api.Item{B: blocks([]api.Item{})})) {
		t.Error("nil and empty parts of items are not the Same")
	}
	a, b := number("x", "u", 8), number("y", "u", 8)
	for _, c := range [][2][]api.Proto{
		{nil, proto("a")}, {proto("a"), proto("b")}, {proto("a"), append(proto("a"), proto("a")...)}, {append(proto("a"), proto("b")...), append(proto("b"), proto("a")...)}, {proto("a", a), proto("a")}, {proto("a", a), proto("a", b)}, {proto("a", a, b), proto("a", b, a)}, {proto("a", a), proto("a", a, a)},
	} {
		unlike(t, c[0], c[1])
	}
	x := api.Item{Op: 77, S: "a", T: "b", N: -1, U: "c", P: []string{"d"}, C: []int{1}, X: []api.Expr{num(1)}, B: blocks(some(a))}
	if !tree.Same(proto("", x), proto("", x)) {
		t.Error("what is no description is not the Same")
	}
	for _, change := range []func(*api.Item){
		func(i *api.Item) { i.Op++ }, func(i *api.Item) { i.S = "" }, func(i *api.Item) { i.T = "" }, func(i *api.Item) { i.N = 0 }, func(i *api.Item) { i.Low = true }, func(i *api.Item) { i.U = "" },
		func(i *api.Item) { i.P = nil }, func(i *api.Item) { i.P = []string{"e"} }, func(i *api.Item) { i.C = nil }, func(i *api.Item) { i.C = []int{2} }, func(i *api.Item) { i.X = nil }, func(i *api.Item) { i.X = []api.Expr{num(2)} },
		func(i *api.Item) { i.B = nil }, func(i *api.Item) { i.B = blocks(nil) }, func(i *api.Item) { i.B = blocks(some(b)) }, func(i *api.Item) { i.B = blocks(some(a), nil) },
	} {
		y := x
		change(&y)
		unlike(t, proto("a", x), proto("a", y))
		unlike(t, proto("a", until(x)), proto("a", until(y)))
	}
}

// unlike makes sure that descriptions are not the Same.
func unlike(t *testing.T, a, b []api.Proto) {
	t.Helper()
	if tree.Same(a, b) || tree.Same(b, a) || !tree.Same(a, a) || !tree.Same(b, b) {
		t.Errorf("Same of %v and %v", a, b)
	}
}

func TestSameExpr(t *testing.T) {
	all := []api.Expr{
		{}, num(1), num(-1), {N: math.MaxInt}, name("a"), name("b"), pref("a"), left(), here(), un("-", num(1)), un("-", num(2)), un("!", num(1)), bin(num(1), "+", num(2)), bin(num(2), "+", num(1)), bin(num(1), "-", num(2)), cond(num(1), num(2), num(3)), cond(num(1), num(3), num(2)),
		{Op: 77}, {Op: -1}, {L: []api.Expr{{}}}, {L: []api.Expr{{}, {}}}, {L: []api.Expr{{L: []api.Expr{{}}}}}, {Op: api.XLeft, S: "a"}, {Op: api.XLeft, N: 1},
	}
	for i, x := range all {
		for j, y := range all {
			if tree.SameExpr(x, y) != (i == j) {
				t.Errorf("SameExpr of %v and %v", x, y)
			}
		}
	}
	if !tree.SameExpr(api.Expr{L: []api.Expr{}}, api.Expr{}) || !tree.SameExpr(un("-", api.Expr{L: []api.Expr{}}), un("-", api.Expr{})) {
		t.Error("nil and empty operands are not the Same")
	}
}

// TestArgumentsAreNotChanged calls each function, and looks at what it was given.
func TestArgumentsAreNotChanged(t *testing.T) {
	m := maker{rand.New(rand.NewSource(11))}
	for range 200 {
		l := m.protos(2)
		before := fmt.Sprint(l)
		tree.Validate(l)
		tree.Print(l)
		tree.Size(l)
		names, _ := tree.Names(l)
		tree.Same(l, l)
		for i := range names {
			names[i] = "changed"
		}
		x := m.expr(4)
		shown := fmt.Sprint(x)
		tree.ValidateExpr(x)
		tree.PrintExpr(x)
		tree.SameExpr(x, x)
		if fmt.Sprint(l) != before || fmt.Sprint(x) != shown {
			t.Fatalf("an argument was changed: %s", before)
		}
	}
}
