package check_test

import (
	"fmt"
	"slices"
	"strings"
	"testing"

	"wireglass/api"
	"wireglass/check"
	"wireglass/tree"
)

// parse returns the descriptions of a source.
func parse(t *testing.T, s string) []api.Proto {
	t.Helper()
	l, n, e := tree.Parse(s)
	if e != api.OK {
		t.Fatalf("Parse of %q: %d, %d", s, n, e)
	}
	return l
}

// finds makes sure that Check finds just this in a source, and that Valid says so. A text has the three numbers of each finding, with blanks between.
func finds(t *testing.T, s string, want string, prefs ...string) {
	t.Helper()
	l := parse(t, s)
	found, e := check.Check(l, prefs)
	got := strings.Trim(strings.NewReplacer("[", "", "]", "").Replace(fmt.Sprint(found)), " ")
	if got != want || e != api.OK {
		t.Errorf("Check of %q: %q, %d; not %q", s, got, e, want)
	}
	if ok, e := check.Valid(l, prefs); ok != (want == "") || e != api.OK {
		t.Errorf("Valid of %q: %v, %d", s, ok, e)
	}
}

func TestNames(t *testing.T) {
	for s, want := range map[string]string{
		"": "", "proto a {}": "", "proto a {} proto b {}": "", "proto a {} proto a {}": "1 1 0", "proto a {} proto b {} proto a {} proto a {} proto b {}": "1 2 0 1 3 0 1 4 0", "proto a { a: u8; }": "",
		"proto a { x: u8; y: i8; } proto a { y: u8; x: i8; }": "1 1 0",
	} {
		finds(t, s, want)
	}
}

func TestKnownNames(t *testing.T) {
	for s, want := range map[string]string{
		"x: u8; let y = x;": "", "let y = x;": "2 0 0", "let y = x; x: u8;": "2 0 0", "let x = x;": "2 0 0", "x: u8; let x = x;": "", "x: bytes(x);": "2 0 0", "x: i16; x: bytes(x);": "", "let x = 1; let y = x + x; stop y - x;": "",
		"x: bytes(1); let y = x;": "2 0 1", "x: text(1); let y = x;": "2 0 1", "x: u8; x: bytes(1); let y = x;": "2 0 2", "x: bytes(1); x: u8; let y = x;": "", "x: bytes(1); let x = 2; let y = x;": "", "let x = 1; x: text(1); let y = x;": "2 0 2", "x: text(1); x: low u16; stop x;": "",
		"sub x {} let y = x;": "2 0 1", "x: u8; sub x {} let y = x;": "", "x: bytes(1); sub x {} let y = x;": "2 0 2", "check z: \"z\"; let y = z;": "2 0 0 2 0 1", "stop a; stop b; stop c + d + c;": "2 0 0 2 0 1 2 0 2",
		"if (1) { x: u8; let y = x; if (x) { let z = y; } } else { x: i8; let w = x; }": "", "if (1) { x: u8; } let y = x;": "2 0 2", "if (1) { x: u8; } else { let y = x; }": "2 0 2", "if (1) {} else { x: u8; } let y = x;": "2 0 2", "if (1) { x: u8; } else { x: u8; } let y = x;": "2 0 3",
		"x: u8; if (1) { x: bytes(1); let y = x; } let z = x;": "2 0 3", "x: bytes(1); if (1) { x: u8; let y = x; } let z = x;": "2 0 4", "if (x) { x: u8; }": "2 0 0", "x: u8; if (x) { let y = x; } else { let y = x; }": "", "x: u8; if (1) {} let y = x;": "",
		"choose (1) { case 1: { x: u8; let y = x; } case 2: { let y = x; } default: { let y = x; } } let y = x;": "2 0 3 2 0 4 2 0 5", "choose (1) { default: { x: u8; } } let y = x;": "2 0 2", "choose (x) { case 1: { x: u8; } }": "2 0 0", "x: u8; choose (x) { case 1: { let y = x; } default: { let z = x; } }": "",
		"x: u8; choose (1) { case 1: { x: text(1); } case 2: { let y = x; } } let z = x;": "",
		"repeat (2) { x: u8; } let y = x;":                                                "", "repeat (2) { let y = x; x: u8; }": "2 0 1", "until { x: u8; } let y = x;": "", "until { y: u8; let z = x; x: u8; }": "2 0 2", "within (1) { x: u8; } let y = x;": "", "sub s { x: u8; } let y = x;": "", "sub s { until { within (1) { repeat (1) { x: u8; } } } } let y = x;": "",
		"x: u8; until { x: bytes(1); } let y = x;": "2 0 3", "x: bytes(1); sub s { x: u8; } let y = x;": "", "sub s { if (1) { x: u8; } let y = x; } let z = x;": "2 0 3 2 0 4", "repeat (x) { x: u8; }": "2 0 0", "within (x) { x: u8; }": "2 0 0", "if (1) { sub s { x: u8; } let y = x; } let z = x;": "2 0 4",
		"until { if (1) { x: u8; } y: u8; let z = x; }": "2 0 4", "x: u8; sub s { y: bytes(x); repeat (x) { z: u8; } within (x) { let w = z; } }": "",
		"next t(x);": "2 0 0", "x: u8; next t(x);": "", "x: bytes(1); next t(x);": "2 0 1", "let y = 1 ? 2 : -x;": "2 0 0", "let y = left + here * 2;": "", "let y = a + (b ? c : !d);": "2 0 0", "y: text(a * 2);": "2 0 0", "if (a) { stop b; }": "2 0 0 2 0 1", "check 1 || q: \"q\" 4;": "2 0 0",
	} {
		finds(t, "proto a { "+s+" }", want)
		finds(t, "proto b { "+s+" } proto c { x: u8; }", want)
	}
	finds(t, "proto a { x: u8; } proto b { let y = x; }", "2 1 0")
	finds(t, "proto a { x: u8; goes b; } proto b { let y = x; } proto c { let z = y; }", "2 1 0 2 2 0")
}

func TestProtosAndPrefs(t *testing.T) {
	for s, want := range map[string]string{
		"goes a;": "", "goes b;": "", "goes c;": "3 0 1", "try a;": "", "try a, b;": "", "try c;": "3 0 1", "try a, c, b;": "3 0 1", "try c, d, e, c;": "3 0 1", "sub s { goes c; }": "3 0 2", "if (1) { goes x; } else { sub s { goes c; } }": "3 0 2 3 0 4", "goes x; goes y;": "3 0 1 3 0 2", "next c(1);": "",
	} {
		finds(t, "proto a { x: u8; "+s+" } proto b { x: u8; }", want)
	}
	finds(t, "proto b {} proto a { goes b; goes c; }", "3 1 1")
	for s, want := range map[string]string{
		"let x = @p;": "", "let x = @p + @q;": "", "let x = @r;": "4 0 0", "let x = @p + @r - @s * @r;": "4 0 0", "x: bytes(@r);": "4 0 0", "check @r: \"r\";": "4 0 0", "if (@r) { stop @s; }": "4 0 0 4 0 1", "if (1) { next t(@P); }": "4 0 1", "choose (@p) { case 1: { let y = @q; } }": "", "let p = 1; let y = p + @r;": "4 0 1",
		"within (@r) { repeat (@s) { x: u8; } }": "4 0 0 4 0 1", "let y = x + @r;": "2 0 0 4 0 0", "let y = p;": "2 0 0",
	} {
		finds(t, "proto a { "+s+" }", want, "q", "p", "if", "")
	}
	finds(t, "proto a { let x = @p; } proto b { let x = @p; let y = @q; }", "4 0 0 4 1 0", "q", "q")
	finds(t, "proto a { let x = @p; }", "4 0 0")
}

func TestLoops(t *testing.T) {
	for s, want := range map[string]bool{ // whether it may be a loop's block
		"": false, "x: u1;": true, "x: i48;": true, "x: low u8;": true, "x: bytes(1);": true, "x: text(2);": true, "x: bytes(0);": false, "x: text(0);": false, "x: bytes(n);": false, "t: u8; x: bytes(t);": true, "x: bytes(1 + 1);": false, "x: bytes(left);": false, "x: bytes(-1);": false,
		"let y = n;": false, "check n: \"\";": false, "stop n;": false, "stop 1;": false, "stop n; x: u8;": true, "x: u8; stop n;": true, "goes b;": true, "within (n) {}": true, "within (0) {}": true, "let y = n; goes b; check y: \"\";": true,
		"if (n) { x: u8; }": false, "if (1) { x: u8; }": false, "if (n) { x: u8; } else { y: u8; }": true, "if (n) { x: u8; } else { goes b; }": true, "if (n) { x: u8; } else { stop 1; }": false, "if (n) {} else { x: u8; }": false, "if (n) { x: u8; } else {}": false, "if (n) {} x: u8;": true, "if (n) { if (n) { x: u8; } else { x: i2; } } else { within (1) {} }": true,
		"choose (n) { case 1: { x: u8; } }": false, "choose (n) { case 1: { x: u8; } default: { x: u8; } }": true, "choose (n) { case 1: { x: u8; } case 2: {} default: { x: u8; } }": false, "choose (n) { case 1: { x: u8; } case 2: { goes b; } default: {} }": false, "choose (n) { default: { x: u8; } }": true, "choose (n) {}": false, "choose (n) {} x: u8;": true, "choose (n) { case 1: { x: u8; } case 2: { x: u8; } }": false,
		"sub s { x: u8; }": true, "sub s {}": false, "sub s { if (n) { x: u8; } }": false, "sub s { stop n; }": false,
		"repeat (1) { x: u8; }": true, "repeat (3) { x: u8; }": true, "repeat (64) { x: u8; }": true, "repeat (65) { x: u8; }": true, "repeat (0) { x: u8; }": false, "repeat (n) { x: u8; }": false, "repeat (2) {}": false, "repeat (2) { if (n) { x: u8; } }": false, "repeat (1 + 1) { x: u8; }": false, "until { x: u8; }": false, "until { x: u8; } y: u8;": true,
	} {
		source := "proto a { n: u8; %s } proto b { x: u8; }"
		for _, loop := range []string{"until", "repeat (n)", "repeat (65)", "repeat (1000)", "repeat (8 * 8)", "repeat (-1)"} {
			found := ""
			if !want {
				found = "5 0 1"
			}
			finds(t, fmt.Sprintf(source, loop+" { "+s+" }"), found)
		}
		for _, loop := range []string{"repeat (64)", "repeat (1)", "repeat (0)"} {
			finds(t, fmt.Sprintf(source, loop+" { "+s+" }"), "")
		}
	}
	finds(t, "proto a { until { x: bytes(n); } }", "2 0 1 5 0 0")
	finds(t, "proto a { n: u8; until { until { until {} } } repeat (n) {} x: u8; sub s { repeat (65) { stop 1; } } }", "5 0 1 5 0 2 5 0 3 5 0 4 5 0 7")
	finds(t, "proto b {} proto a { until { until { x: u8; } } }", "5 1 0")
	finds(t, "proto b {} proto a { if (1) { until { repeat (2) { x: u8; } } } else { until {} } }", "5 1 4")
}

func TestEnds(t *testing.T) {
	for s, want := range map[string]string{
		"next t(1);": "", "try b;": "", "x: u8; next t(x);": "", "next t(1); x: u8;": "6 0 1", "try b; x: u8; let y = x;": "6 0 1 6 0 2", "try b; next t(1);": "6 0 1", "next t(1); try b; next t(2);": "6 0 1 6 0 2", "goes b; x: u8;": "", "next t(1); sub s { x: u8; y: u8; }": "6 0 1", "try b; if (1) { next t(1); x: u8; }": "6 0 1 6 0 3", "sub s { next t(1); } x: u8;": "", "if (1) { try b; } else { try b; } try b;": "", "within (1) { try b; } next t(1);": "", "choose (1) { case 1: { try b; } case 2: { try b; x: u8; } default: { next t(1); } } x: u8;": "6 0 3",
		"until { try b; }": "6 0 1", "repeat (2) { next t(1); }": "6 0 1", "until { x: u8; sub s { if (x) { within (x) { try b; } } else { next t(x); } } }": "6 0 5 6 0 6", "until { try b; x: u8; }": "6 0 1 6 0 2", "until { next t(1); try b; }": "6 0 1 6 0 2", "repeat (1) { choose (1) { default: { next t(1); } } }": "6 0 2", "until { goes b; }": "", "until { x: u8; } try b;": "", "repeat (n) { repeat (1) { until { try b; } } }": "2 0 0 5 0 0 6 0 3", "within (1) { sub s { until { x: u8; } next t(1); } }": "",
		"try b; until { x: u8; }": "6 0 1", "try b; until { try b; }": "6 0 1 6 0 2", "repeat (0) { try b; }": "6 0 1",
	} {
		finds(t, "proto a { "+s+" } proto b { x: u8; }", want)
	}
	finds(t, "proto b { x: u8; } proto a { try b; x: u8; }", "6 1 1")
}

func TestItself(t *testing.T) {
	for s, want := range map[string]bool{ // whether it may stand in front of a call
		"": false, "x: u8;": true, "x: u1;": true, "x: bytes(1);": true, "x: text(3);": true, "x: bytes(0);": false, "x: bytes(n);": false, "x: text(2 - 1);": false, "let y = 1;": false, "check 1: \"\";": false, "stop 1;": false,
		"if (1) { x: u8; }": false, "if (1) { x: u8; } else { x: u8; }": true, "if (1) { x: u8; } else {}": false, "if (1) {} else { x: u8; }": false, "choose (1) { case 1: { x: u8; } }": false, "choose (1) { case 1: { x: u8; } default: { x: bytes(2); } }": true, "choose (1) { case 1: {} default: { x: u8; } }": false, "choose (1) {}": false, "choose (1) { default: { x: u8; } }": true,
		"repeat (1) { x: u8; }": true, "repeat (70) { x: u8; }": true, "repeat (0) { x: u8; }": false, "repeat (n) { x: u8; }": false, "repeat (2) { if (1) { x: u8; } }": false, "until { x: u8; }": false, "sub s { x: u8; }": true, "sub s {}": false, "within (1) { x: u8; }": true, "within (1) {}": false, "within (4) { x: bytes(0); }": false, "within (n) { if (1) { x: u8; } }": false, "within (n) { sub s { repeat (1) { x: i3; } } }": true,
		"goes b;": false, "goes a;": false, "if (1) { try b; }": false, "if (1) { next t(1); }": false, "within (1) { try b; }": false, "sub s { goes b; x: u8; }": true, "if (1) { stop 1; } else { x: u8; }": false,
	} {
		for _, call := range []string{"goes a;", "try a;", "try b, a;", "sub s { goes a; }", "within (2) { goes a; }", "if (1) { goes a; }", "if (1) {} else { goes a; }", "if (1) { x: u8; } else { goes a; }", "choose (1) { case 1: {} case 2: { try a; } }", "choose (1) { default: { goes a; } }", "repeat (2) { goes a; }", "until { goes a; }", "goes b; goes a;", "goes c;", "repeat (1) { goes a; }", "repeat (70) { sub s { goes a; } }", "repeat (n) { goes a; }", "repeat (1 - 1) { goes a; }"} {
			found := ""
			if !want || s == "goes a;" {
				found = "7 1 0"
			}
			if call == "goes c;" && !want {
				found = "7 1 0 7 3 0"
			}
			source := "proto b { x: u8; } proto a { let n = 2; " + s + " " + call + " } proto d { goes a; x: u8; } proto c { let m = 1; goes a; }"
			finds(t, source, found)
		}
	}
	for _, s := range []string{ // no way goes through them to a call
		"repeat (0) { goes a; }", "repeat (0) { goes b; goes a; x: u8; }", "repeat (0) { goes c; }", "repeat (0) { sub s { goes a; } }", "repeat (0) { within (1) { if (1) { goes a; } else { choose (1) { default: { goes a; } } } } }", "repeat (0) { repeat (2) { goes a; } until { goes a; } }",
		"if (1) { repeat (0) { goes a; } }", "if (1) {} else { sub s { repeat (0) { goes a; } } }", "choose (1) { case 1: { repeat (0) { goes a; } } }", "repeat (2) { repeat (0) { goes a; } }", "until { repeat (0) { goes a; } x: u8; }", "within (1) { repeat (0) { goes a; } }",
	} {
		finds(t, "proto b { x: u8; } proto a { "+s+" } proto c { goes a; }", "")
		finds(t, "proto b { x: u8; } proto a { "+s+" goes a; } proto c { x: u8; goes a; }", "7 1 0")
	}
	for s, want := range map[string]string{
		"proto a { repeat (0) { goes b; } } proto b { goes a; }": "", "proto a { repeat (0) { goes b; } } proto b { repeat (1) { goes b; } }": "7 1 0", "proto a { repeat (0) { try a; } }": "6 0 1",
		"proto a { goes a; }": "7 0 0", "proto a { x: u8; goes a; }": "", "proto a { goes a; x: u8; }": "7 0 0", "proto a { goes b; } proto b { goes c; } proto c { goes a; }": "7 0 0 7 1 0 7 2 0", "proto a { goes b; } proto b { x: u8; goes c; } proto c { goes a; }": "", "proto a { goes b; } proto b { goes c; } proto c { try d, b; } proto d { goes d; x: u1; }": "7 1 0 7 2 0 7 3 0",
		"proto a { goes b; x: u8; goes a; } proto b { x: u8; goes a; }": "", "proto a { x: u8; goes b; } proto b { goes c; } proto c { goes b; }": "7 1 0 7 2 0", "proto a { next a(1); }": "", "proto a { goes x; }": "3 0 0", "proto a { if (1) { x: u8; goes a; } else { goes b; } } proto b { if (1) { goes a; } }": "7 0 0 7 1 0",
		"proto a { if (1) { x: u8; goes b; } else { goes c; } } proto b { goes a; } proto c { goes d; } proto d { goes c; }": "7 2 0 7 3 0", "proto a { goes a; } proto a { goes b; } proto b { x: u8; goes a; }": "1 1 0 7 0 0", "proto a { x: u8; } proto a { goes a; }": "1 1 0 7 1 0",
	} {
		finds(t, s, want)
	}
}

// failing returns descriptions that tree refuses, with its errors.
func failing() map[api.Errno][]api.Proto {
	return map[api.Errno][]api.Proto{
		api.ErrArg:   {{Name: "a"}, {Name: "if"}},
		api.ErrLarge: slices.Repeat([]api.Proto{{Name: "a"}}, api.MaxProtos+1),
	}
}

func TestErrors(t *testing.T) {
	for want, l := range failing() {
		if r, e := check.Check(l, nil); len(r) != 0 || e != want {
			t.Errorf("Check: %v, %d, not %d", r, e, want)
		}
		if r, e := check.Valid(l, nil); r || e != want {
			t.Errorf("Valid: %v, %d, not %d", r, e, want)
		}
		if r, e := check.Calls(l); len(r) != 0 || e != want {
			t.Errorf("Calls: %v, %d, not %d", r, e, want)
		}
		if r, e := check.Rings(l); len(r) != 0 || e != want {
			t.Errorf("Rings: %v, %d, not %d", r, e, want)
		}
		if r, e := check.Tables(l); len(r) != 0 || e != want {
			t.Errorf("Tables: %v, %d, not %d", r, e, want)
		}
		if r, e := check.Prefs(l); len(r) != 0 || e != want {
			t.Errorf("Prefs: %v, %d, not %d", r, e, want)
		}
		named(t, l, "z", -1, want)
	}
	l := parse(t, "proto a { x: u8; } proto b { let y = x; }")
	named(t, l, "z", -1, api.ErrNone)
	named(t, l, "", -1, api.ErrNone)
	named(t, nil, "", 0, api.ErrNone)
	for _, bytes := range []int{-1, api.MaxPacket + 1, -1 << 63, 1<<63 - 1} {
		if n, e := check.Work(l, "a", bytes); n != 0 || e != api.ErrArg {
			t.Errorf("Work of %d bytes: %d, %d", bytes, n, e)
		}
	}
	if n, e := check.Work(l, "a", 0); n != 0 || e != api.ErrRule {
		t.Errorf("Work of what is against a rule: %d, %d", n, e)
	}
	if n, e := check.Least(l, "a"); n != 0 || e != api.ErrRule {
		t.Errorf("Least of what is against a rule: %d, %d", n, e)
	}
	if names, e := check.Known(l, "b"); !slices.Equal(names, []string{"y"}) || e != api.OK {
		t.Errorf("Known of what is against a rule: %v, %d", names, e)
	}
}

// named makes sure that the functions that have a name of a protocol fail.
func named(t *testing.T, l []api.Proto, name string, bytes int, want api.Errno) {
	t.Helper()
	if r, e := check.Known(l, name); len(r) != 0 || e != want {
		t.Errorf("Known of %q: %v, %d, not %d", name, r, e, want)
	}
	if r, e := check.Least(l, name); r != 0 || e != want {
		t.Errorf("Least of %q: %v, %d, not %d", name, r, e, want)
	}
	if r, e := check.Work(l, name, bytes); r != 0 || e != want {
		t.Errorf("Work of %q: %v, %d, not %d", name, r, e, want)
	}
}
