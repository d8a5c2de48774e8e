package tree_test

import (
	"slices"
	"strings"
	"testing"

	"wireglass/api"
	"wireglass/tree"
)

func TestParseOrdinary(t *testing.T) {
	parses(t, "", 0, nil)
	parses(t, " // nothing\n", 0, nil)
	parses(t, "proto a {}", 4, proto("a"))
	parses(t, "proto a {} proto b {} proto a {}", 12, []api.Proto{{Name: "a"}, {Name: "b"}, {Name: "a"}})
	parses(t, "proto a { len: u8; body: bytes(len); }", 15, proto("a", number("len", "u", 8), sized("body", "bytes", name("len"))))
}

// parsesItem makes sure that the source of an item is just this item, by itself and among others.
func parsesItem(t *testing.T, s string, tokens int, want api.Item) {
	t.Helper()
	parses(t, "proto p { "+s+" }", tokens+4, proto("p", want))
	parses(t, "proto p{"+s+"goes q;"+s+"}", 2*tokens+7, proto("p", want, goes("q"), want))
	parses(t, "proto p { sub s { until { "+s+" } } }", tokens+11, proto("p", sub("s", until(want))))
}

func TestParseFields(t *testing.T) {
	for _, kind := range []string{"u", "i"} {
		parsesItem(t, "x: "+kind+"1;", 4, number("x", kind, 1))
		parsesItem(t, "x: "+kind+"48;", 4, number("x", kind, 48))
		parsesItem(t, "x: "+kind+" 16;", 5, number("x", kind, 16))
		parsesItem(t, "x: "+kind+" 0x10;", 5, number("x", kind, 16))
		parsesItem(t, "x: "+kind+"016;", 4, number("x", kind, 16))
		parsesItem(t, "x: "+kind+"0x10;", 4, number("x", kind, 16))
		parsesItem(t, "x: low "+kind+"8;", 5, low(number("x", kind, 8)))
		parsesItem(t, "x: low "+kind+"48;", 5, low(number("x", kind, 48)))
		parsesItem(t, "x: low "+kind+" 24;", 6, low(number("x", kind, 24)))
		parsesItem(t, "x: "+kind+`3 "s";`, 5, unit(number("x", kind, 3), "s"))
		parsesItem(t, "x: low "+kind+` 8 "s";`, 7, unit(low(number("x", kind, 8)), "s"))
	}
	for _, kind := range []string{"bytes", "text"} {
		parsesItem(t, "x: "+kind+"(left);", 7, sized("x", kind, left()))
		parsesItem(t, "x: "+kind+` ( 4 * ( n - 5 ) ) "a\n\xff";`, 14, unit(sized("x", kind, bin(num(4), "*", bin(name("n"), "-", num(5)))), "a\n\xff"))
	}
	parsesItem(t, `x: u8 "";`, 5, number("x", "u", 8))
	parsesItem(t, `x: u8 "`+strings.Repeat("y", 40)+`";`, 5, unit(number("x", "u", 8), strings.Repeat("y", 40)))
}

func TestParseNamesLikeTypes(t *testing.T) {
	for _, s := range []string{"u", "i", "u16", "i1", "u49", "u0", "ux", "lowest", "Left", "iffy", "_", "a.b.0"} {
		parsesItem(t, s+": u16;", 4, number(s, "u", 16))
		parsesItem(t, s+": u 16;", 5, number(s, "u", 16))
		parsesItem(t, "let "+s+" = "+s+";", 5, let(s, name(s)))
		parsesItem(t, "next "+s+"(@"+s+");", 7, next(s, pref(s)))
		parsesItem(t, "sub "+s+" { "+s+": i8; }", 8, sub(s, number(s, "i", 8)))
		parsesItem(t, "try "+s+","+s+";", 5, try(s, s))
		parses(t, "proto "+s+"{ goes "+s+"; }", 7, proto(s, goes(s)))
	}
}

func TestParseItems(t *testing.T) {
	x, y := number("x", "u", 8), number("y", "i", 4)
	parsesItem(t, "let a = 1;", 5, let("a", num(1)))
	parsesItem(t, `check x == 1: "odd" 3;`, 8, check(bin(name("x"), "==", num(1)), "odd", 3))
	parsesItem(t, `check x: "";`, 5, check(name("x"), "", 2))
	parsesItem(t, `check x ? y : 1: "a" 0;`, 10, check(cond(name("x"), name("y"), num(1)), "a", 0))
	parsesItem(t, `check 1: "a" 4;`, 6, check(num(1), "a", 4))
	parsesItem(t, `check 1: "`+strings.Repeat(`\xff`, 40)+`";`, 5, check(num(1), strings.Repeat("\xff", 40), 2))
	parsesItem(t, "stop left < 2;", 5, stop(bin(left(), "<", num(2))))
	parsesItem(t, "if (a) {}", 6, choice(name("a"), nil))
	parsesItem(t, "if (a) { x: u8; } else { y: i4; }", 17, choice(name("a"), some(x), some(y)))
	parsesItem(t, "if (a) {} else {}", 9, choice(name("a"), nil, nil))
	parsesItem(t, "if (a) { if (b) {} else {} }", 15, choice(name("a"), some(choice(name("b"), nil, nil))))
	parsesItem(t, "choose (a) {}", 6, choose(name("a"), nil))
	parsesItem(t, "choose (a) { default: {} }", 10, choose(name("a"), nil, nil))
	parsesItem(t, "choose (a) { case 2: { x: u8; } case 0x1: {} case 0.0.1.0: { y: i4; x: u8; } }", 33, choose(name("a"), []int{2, 1, 256}, some(x), nil, some(y, x)))
	parsesItem(t, "choose (a) { case 281474976710655: {} default: { y: i4; } }", 19, choose(name("a"), []int{1<<48 - 1}, nil, some(y)))
	parsesItem(t, "choose (a) { case 1: { choose (b) { case 1: {} } } }", 22, choose(name("a"), []int{1}, some(choose(name("b"), []int{1}, nil))))
	parsesItem(t, "repeat (n) { x: u8; y: i4; }", 14, repeat(name("n"), x, y))
	parsesItem(t, "until { x: u8; }", 7, until(x))
	parsesItem(t, "within (n - 8) { y: i4; }", 12, within(bin(name("n"), "-", num(8)), y))
	parsesItem(t, "sub s {}", 4, sub("s"))
	parsesItem(t, "sub s { x: u8; }", 8, sub("s", x))
	parsesItem(t, "goes a;", 3, goes("a"))
	parsesItem(t, "next t (2 + 1);", 8, next("t", bin(num(2), "+", num(1))))
	parsesItem(t, "try a;", 3, try("a"))
	parsesItem(t, "try a, b , a;", 7, try("a", "b", "a"))
}

func TestParseExprAlone(t *testing.T) {
	for s, want := range map[string]api.Expr{
		"0": num(0), "0xfF": num(255), "10.0.0.1": num(167772161), "281474976710655": num(1<<48 - 1), "a": name("a"), "ip.src": name("ip.src"), "u16": name("u16"),
		"left": left(), "here": here(), "@p": pref("p"), "@ p.q": pref("p.q"), "-1": un("-", num(1)), "- - 1": un("-", un("-", num(1))), "--1": un("-", un("-", num(1))),
		"!~-@a": un("!", un("~", un("-", pref("a")))), "-left": un("-", left()), "((a))": name("a"), "-(((here)))": un("-", here()),
		"a - -1": bin(name("a"), "-", un("-", num(1))), "a--1": bin(name("a"), "-", un("-", num(1))), "-a * b": bin(un("-", name("a")), "*", name("b")), "-(a * b)": un("-", bin(name("a"), "*", name("b"))),
		"!a == b": bin(un("!", name("a")), "==", name("b")), "a == !b": bin(name("a"), "==", un("!", name("b"))), "a !=!b": bin(name("a"), "!=", un("!", name("b"))), "a&-b": bin(name("a"), "&", un("-", name("b"))),
		"a ? b : c":                cond(name("a"), name("b"), name("c")),
		"a ? b : c ? d : e":        cond(name("a"), name("b"), cond(name("c"), name("d"), name("e"))),
		"a ? b ? c : d : e":        cond(name("a"), cond(name("b"), name("c"), name("d")), name("e")),
		"(a ? b : c) ? d : e":      cond(cond(name("a"), name("b"), name("c")), name("d"), name("e")),
		"a || b ? c || d : e || f": cond(bin(name("a"), "||", name("b")), bin(name("c"), "||", name("d")), bin(name("e"), "||", name("f"))),
		"a + (b ? c : d)":          bin(name("a"), "+", cond(name("b"), name("c"), name("d"))),
		"-(a ? 1 : 2)":             un("-", cond(name("a"), num(1), num(2))),
		"(a == b) == c":            bin(bin(name("a"), "==", name("b")), "==", name("c")),
		"a == (b == c)":            bin(name("a"), "==", bin(name("b"), "==", name("c"))),
		"a < b && c > d":           bin(bin(name("a"), "<", name("b")), "&&", bin(name("c"), ">", name("d"))),
		"a||b&&c==d|e^f&g<<h+k*-m": bin(name("a"), "||", bin(name("b"), "&&", bin(name("c"), "==", bin(name("d"), "|", bin(name("e"), "^", bin(name("f"), "&", bin(name("g"), "<<", bin(name("h"), "+", bin(name("k"), "*", un("-", name("m"))))))))))),
		"-m*k+h<<g&f^e|d==c&&b||a": bin(bin(bin(bin(bin(bin(bin(bin(bin(un("-", name("m")), "*", name("k")), "+", name("h")), "<<", name("g")), "&", name("f")), "^", name("e")), "|", name("d")), "==", name("c")), "&&", name("b")), "||", name("a")),
		"a - b - c":                bin(bin(name("a"), "-", name("b")), "-", name("c")),
		"a - (b - c)":              bin(name("a"), "-", bin(name("b"), "-", name("c"))),
		"a / b % c * d":            bin(bin(bin(name("a"), "/", name("b")), "%", name("c")), "*", name("d")),
		"a >> b << c":              bin(bin(name("a"), ">>", name("b")), "<<", name("c")),
		"a // b\n+ c":              bin(name("a"), "+", name("c")),
	} {
		parsesExpr(t, s, want)
	}
	if _, n, e := tree.ParseExpr("(a + 0x10) ? @b : \n-c"); n != 11 || e != api.OK {
		t.Errorf("ParseExpr tells %d tokens, %d", n, e)
	}
}

// TestParseExprGroups goes through all pairs of operators.
func TestParseExprGroups(t *testing.T) {
	all := strings.Fields(strings.Join(operators, " "))
	for _, x := range all {
		for _, y := range all {
			s := "a " + x + " b " + y + " c"
			onLeft := bin(bin(name("a"), x, name("b")), y, name("c"))
			onRight := bin(name("a"), x, bin(name("b"), y, name("c")))
			switch a, b := strength(x), strength(y); {
			case a == 2 && b == 2:
				failsExpr(t, s, 3, api.ErrSyntax)
			case a >= b:
				parsesExpr(t, s, onLeft)
			default:
				parsesExpr(t, s, onRight)
			}
			parsesExpr(t, "(a "+x+" b) "+y+" c", onLeft)
			parsesExpr(t, "a "+x+" (b "+y+" c)", onRight)
			parsesExpr(t, "-a "+x+" !b ? c "+y+" ~d : e", cond(bin(un("-", name("a")), x, un("!", name("b"))), bin(name("c"), y, un("~", name("d"))), name("e")))
		}
	}
}

func TestKeywords(t *testing.T) {
	want := strings.Fields("proto let check stop if else choose case default repeat until within sub goes next try low bytes text left here")
	slices.Sort(want)
	if l := tree.Keywords(); !slices.Equal(l, want) {
		t.Errorf("Keywords: %q", l)
	}
	tree.Keywords()[0] = "changed"
	if tree.Keywords()[0] != want[0] {
		t.Error("Keywords is not new memory")
	}
}

// TestParseIsNewMemory changes all of a result, and parses again.
func TestParseIsNewMemory(t *testing.T) {
	s := "proto a { if (a + 1) { x: u8; } else { try b, c; } choose (1) { case 1: {} } }"
	first, _, _ := tree.Parse(s)
	again, _, _ := tree.Parse(s)
	first[0].Items[0].X[0].L[0].S = "z"
	first[0].Items[0].B[1][0].P[0] = "z"
	first[0].Items[1].C[0] = 9
	if third, _, _ := tree.Parse(s); !alike(again, third) || alike(first, again) {
		t.Error("results of Parse share memory")
	}
}
