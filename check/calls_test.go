package check_test

import (
	"fmt"
	"strings"
	"testing"

	"wireglass/api"
	"wireglass/check"
)

func TestCalls(t *testing.T) {
	for _, c := range []struct{ s, calls, rings string }{
		{"", "[]", "[]"}, {"proto a {}", "[]", "[]"}, {"proto a { goes a; }", "[[a a]]", "[[a]]"}, {"proto a { goes b; } proto b {}", "[[a b]]", "[]"}, {"proto a { goes c; next b(1); } proto b {}", "[]", "[]"}, {"proto a { try b, a, c; } proto b {}", "[[a a] [a b]]", "[[a]]"},
		{"proto b { goes a; goes a; try a; } proto a { goes b; }", "[[a b] [b a]]", "[[a b]]"}, {"proto b { sub s { if (1) { goes a; } else { try c; } } } proto a {} proto c { until { within (1) { goes b; } } }", "[[b a] [b c] [c b]]", "[[b c]]"},
		{"proto a { goes b; } proto b { goes c; } proto c { goes a; } proto d { goes a; goes d; } proto e { goes f; } proto f { choose (1) { case 1: { try e; } } }", "[[a b] [b c] [c a] [d a] [d d] [e f] [f e]]", "[[a b c] [d] [e f]]"},
		{"proto c { goes d; } proto d { goes c; goes b; } proto a { goes b; } proto b { goes a; goes b; }", "[[a b] [b a] [b b] [c d] [d b] [d c]]", "[[a b] [c d]]"}, {"proto a { goes b; } proto a { goes c; } proto b {} proto c { x: u8; goes a; }", "[[a b] [a c] [c a]]", "[[a c]]"},
		{"proto ab { goes ab; } proto a { goes b; } proto b { goes a; }", "[[a b] [ab ab] [b a]]", "[[a b] [ab]]"}, {"proto a { x: u8; goes b; } proto b { x: u8; repeat (x) { goes a; } }", "[[a b] [b a]]", "[[a b]]"}, {"proto a { goes b; goes c; } proto b { goes a; } proto c { goes a; }", "[[a b] [a c] [b a] [c a]]", "[[a b c]]"},
	} {
		l := parse(t, c.s)
		if r, e := check.Calls(l); fmt.Sprint(r) != c.calls || e != api.OK {
			t.Errorf("Calls of %q: %v, %d; not %s", c.s, r, e, c.calls)
		}
		if r, e := check.Rings(l); fmt.Sprint(r) != c.rings || e != api.OK {
			t.Errorf("Rings of %q: %v, %d; not %s", c.s, r, e, c.rings)
		}
	}
}

func TestTablesAndPrefs(t *testing.T) {
	for _, c := range []struct{ s, tables, prefs string }{
		{"", "", ""}, {"proto a { next t(@p); }", "t", "p"}, {"proto a { next t(1); } proto b { next t(2); }", "t", ""}, {"proto a { sub s { if (@q) { next z(1); } else { next y(@p + -@p); } } goes g; try h; } proto b { x: bytes(@Q); next port(1 ? @a : @b); }", "port y z", "Q a b p q"},
		{"proto a { choose (1) { case 1: { next c(1); } default: { next d(1); } } within (@w) { next b(1); } repeat (@r) { stop @s; } check @c: \"n\"; let l = @l; until { next a(left); } }", "a b c d", "c l r s w"},
	} {
		l := parse(t, c.s)
		if r, e := check.Tables(l); strings.Join(r, " ") != c.tables || e != api.OK {
			t.Errorf("Tables of %q: %q, %d; not %q", c.s, r, e, c.tables)
		}
		if r, e := check.Prefs(l); strings.Join(r, " ") != c.prefs || e != api.OK {
			t.Errorf("Prefs of %q: %q, %d; not %q", c.s, r, e, c.prefs)
		}
	}
}

func TestKnown(t *testing.T) {
	for s, want := range map[string]string{
		"": "", "x: u8;": "x", "x: bytes(1);": "", "z: i8; let y = z; x: text(2);": "y z", "x: u8; x: bytes(1);": "", "x: bytes(1); x: u8;": "x", "if (1) { x: u8; } else { y: u8; }": "", "choose (1) { case 1: { x: u8; } default: { x: u8; } }": "", "x: u8; if (1) { x: bytes(1); }": "x", "x: bytes(1); if (1) { x: u8; }": "",
		"repeat (1) { a: u8; } until { b: u8; } within (1) { c: u8; } sub d { e: u8; }": "a b c e", "repeat (0) { a: u8; }": "a", "sub d { if (1) { x: u8; } sub y { let z = 1; } w: bytes(1); }": "z", "x: u8; sub s { x: bytes(1); }": "", "x: u8; sub x {}": "x", "stop 1; x: u8; next t(x); y: u8;": "x y", "let b = unknown; B: u8;": "B b",
	} {
		l := parse(t, "proto b { q: u8; } proto a { "+s+" } proto a { w: u8; }")
		if r, e := check.Known(l, "a"); strings.Join(r, " ") != want || e != api.OK {
			t.Errorf("Known of %q: %q, %d; not %q", s, r, e, want)
		}
	}
}

func TestLeast(t *testing.T) {
	for s, want := range map[string]int{
		"": 0, "x: u8;": 8, "x: u1; y: i48;": 49, "x: bytes(3);": 24, "x: text(2); y: u4;": 20, "x: bytes(0);": 0, "n: u8; x: bytes(n);": 8, "x: bytes(1 + 1);": 0, "x: bytes(left);": 0, "let y = 1; check y: \"\";": 0, "x: u8; goes b;": 8, "x: u8; try b;": 8, "x: u8; next t(x);": 8, "goes b; x: u8;": 8,
		"within (4) { x: u8; }": 0, "within (4) { x: u8; } y: u8;": 8, "within (left) {} y: u2;": 2, "until { x: u8; }": 0, "until { x: u8; } y: u3;": 3, "n: u8; repeat (n) { x: u8; }": 8, "repeat (3) { x: u5; }": 15, "repeat (0) { x: u8; }": 0, "repeat (0) { goes a; } x: u3;": 3, "repeat (1) { x: u8; } y: u8;": 16, "repeat (4) { repeat (5) { x: u2; y: u1; } z: u1; }": 64, "repeat (2 + 1) { x: u8; }": 0, "sub s { x: u8; } y: u8;": 16, "sub s {}": 0,
		"if (1) { x: u8; }": 0, "if (1) { x: u8; } y: u4;": 4, "if (1) { x: u8; } else { y: u5; }": 5, "if (1) { x: u5; } else { y: u8; } z: u1;": 6, "if (1) { x: u8; } else {}": 0, "if (1) { x: u8; } else { if (1) { x: u7; } else { x: u6; } }": 6, "choose (1) { case 1: { x: u8; } case 2: { x: u8; } }": 0, "choose (1) { case 1: { x: u8; } case 2: { x: u6; } default: { x: u7; } }": 6, "choose (1) { default: { x: u9; } }": 9, "choose (1) {} x: u1;": 1,
		"stop 1;": 0, "x: u8; stop x; y: u8;": 8, "x: u8; stop 0; y: u8; stop y;": 8, "x: u8; stop x;": 8, "sub s { x: u8; stop x; y: u8; } z: u8;": 8, "x: u1; sub s { x: u8; stop x; } z: u8;": 9, "if (1) { x: u8; stop x; } else { y: u48; } z: u48;": 8, "if (1) { stop 1; } x: u8;": 0, "x: u2; if (1) { x: u1; } else { x: u3; stop x; } x: u1;": 4, "x: u2; if (1) { x: u1; } else { x: u3; stop x; } x: u3;": 5, "choose (1) { case 1: { x: u1; stop x; } default: { x: u2; stop x; } } y: u8;": 1,
		"repeat (3) { x: u8; stop x; }": 8, "x: u1; repeat (3) { x: u8; stop x; y: u8; }": 9, "repeat (0) { stop 1; } x: u8;": 8, "until { x: u8; stop x; } y: u8; z: u8;": 8, "x: u1; until { stop 1; x: u8; } y: u8;": 1, "n: u8; repeat (n) { x: u4; stop x; } y: u8;": 12,
		"within (8) { x: u8; stop x; } y: u16;": 0, "within (8) { stop 1; x: u8; } y: u8;": 0, "x: u8; within (1) { y: u8; stop 1; } z: u8;": 8, "x: u8; within (1) { y: u8; } z: u8;": 16, "x: u3; within (x) { y: u8; within (1) { y: u8; stop 1; y: u8; } } z: u8;": 3, "x: u3; within (1) { y: u8; sub s { y: u8; if (y) {} else { y: u8; stop 1; } } } z: u8;": 3, "x: u3; within (1) { repeat (2) { y: u8; until { y: u8; stop 1; } } } z: u8;": 3,
		"x: u3; within (1) { y: u8; repeat (0) { stop 1; } } z: u8;": 11, "within (1) { x: u8; } y: u8; stop 1; z: u8;": 8, "x: u1; sub s { x: u2; within (1) { x: u8; stop 1; } x: u4; } x: u8;": 3, "x: u1; until { x: u4; within (1) { x: u8; stop 1; } } x: u8;": 5, "repeat (3) { x: u2; within (1) { x: u8; stop 1; } x: u48; }": 2, "x: u1; if (1) { x: u2; within (1) { stop 1; } } else { x: u8; } x: u48;": 3, "x: u2; within (1) { x: bytes(200000); stop 1; } x: bytes(200000);": 2,
		"x: bytes(125000);": 1000000, "x: bytes(124999); y: u7;": 999999, "x: bytes(124999); y: u7; z: u1;": 1000000, "x: bytes(124999); y: u9;": 1000000, "x: bytes(281474976710655);": 1000000, "repeat (281474976710655) { x: bytes(281474976710655); }": 1000000, "repeat (281474976710655) { x: u1; }": 1000000, "repeat (281474976710655) { repeat (281474976710655) { repeat (281474976710655) { x: u48; } } } repeat (281474976710655) { x: u48; }": 1000000, "repeat (20834) { x: u48; }": 1000000, "repeat (20833) { x: u48; }": 999984,
		"if (1) { x: bytes(281474976710655); } else { x: u1; stop 1; y: bytes(281474976710655); } z: u8;": 1, "if (1) { x: bytes(200000); } else { x: bytes(300000); }": 1000000, "let x = @p + @q; y: u4;": 4,
	} {
		l := parse(t, "proto b { x: u8; } proto a { "+s+" }")
		if n, e := check.Least(l, "a"); n != want || e != api.OK {
			t.Errorf("Least of %q: %d, %d; not %d", s, n, e, want)
		}
	}
}

func TestWork(t *testing.T) {
	for _, c := range []struct {
		s           string
		bytes, want int
	}{
		{"proto a {}", 0, 66 * 2 * 101 * 14 * 1}, {"proto a {}", 1, 74 * 2 * 101 * 14 * 1}, {"proto a {}", 400, 3266 * 2 * 101 * 14 * 1}, {"proto a { x: u8; } proto b { y: u8; z: u8; }", 10, 146 * 6 * 101 * 14 * 1}, {"proto a { x: u8; try a; }", 2, 82 * 4 * 101 * 14 * 2}, {"proto a { repeat (0) { goes a; } }", 1, 74 * 4 * 101 * 14 * 1},
		{"proto b { x: u8; try a, b, b; } proto a { if (1) { x: u8; } else { sub s { until { let y = 1; z: bytes(1 + y * 2); w: u1; } try b; } } }", 3, 90 * 13 * 101 * 14 * 4},
	} {
		if n, e := check.Work(parse(t, c.s), "a", c.bytes); n != c.want || e != api.OK {
			t.Errorf("Work of %q and %d bytes: %d, %d; not %d", c.s, c.bytes, n, e, c.want)
		}
	}
}
