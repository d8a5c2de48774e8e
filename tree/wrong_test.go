package tree_test

import (
	"strings"
	"testing"

	"wireglass/api"
	"wireglass/tree"
)

func TestParseErrorsOfLex(t *testing.T) {
	fails(t, "proto a {} $", 11, api.ErrSyntax)
	fails(t, "proto proto {} $", 15, api.ErrSyntax) // before the keyword as a name
	fails(t, `proto a { x: u8 "y`, 16, api.ErrSyntax)
	fails(t, "proto a { x: u8; abcdefghijklmnopq: u8; }", 17, api.ErrSyntax)
	fails(t, "proto a { let x = 281474976710656; }", 18, api.ErrSyntax)
	fails(t, strings.Repeat(" ", api.MaxSource+1), 0, api.ErrLarge)
	fails(t, strings.Repeat(";", api.MaxTokens+1), 0, api.ErrLarge)
	fails(t, strings.Repeat(";", api.MaxTokens), 0, api.ErrSyntax)
	failsExpr(t, "a + $", 4, api.ErrSyntax)
	failsExpr(t, "(a +* b '", 8, api.ErrSyntax)
	failsExpr(t, strings.Repeat(" ", api.MaxSource+1), 0, api.ErrLarge)
	failsExpr(t, strings.Repeat("-", api.MaxTokens+1), 0, api.ErrLarge)
	failsExpr(t, strings.Repeat("-", api.MaxTokens), api.MaxTokens, api.ErrSyntax)
	failsExpr(t, strings.Repeat("(", api.MaxTokens), api.MaxTokens, api.ErrSyntax)
}

// marked returns a source without its mark ` `, and the number of tokens in front of it.
func marked(t *testing.T, s string) (string, int) {
	t.Helper()
	before, behind, ok := strings.Cut(s, "`")
	if !ok {
		t.Fatalf("no mark in %q", s)
	}
	return before + behind, len(strings.Fields(before))
}

// TestParseMisfits has sources with a mark in front of the first token that does not fit. All tokens have blanks between.
func TestParseMisfits(t *testing.T) {
	for _, s := range []string{
		"`a", "`{", "`5", "`;", "`\"proto\" a { }", "proto `", "proto `proto { }", "proto `5 { }", "proto `\"a\" { }", "proto `{ }", "proto a `", "proto a `( )", "proto a `a { }", "proto a { `", "proto a { } `}", "proto a { } `a { }", "proto a { } `x : u8 ;",
		"proto a { `proto b { } }", "proto a { goes b ; `", "proto a { until { `", "proto a { until { } `", "proto a { } proto `",
	} {
		source, at := marked(t, s)
		fails(t, source, at, api.ErrSyntax)
	}
	for _, s := range []string{
		// fields
		"`5 : u8 ;", "`; x : u8 ;", "`: u8 ;", "`\"x\" : u8 ;", "x `; u8 ;", "x `y : u8 ;", "x `= u8 ;", "x : `", "x : `; ", "x : `8 ;", "x : `v8 ;", "x : `use ;", "x : `U8 ;", "x : `name ;", "x : `if ;", "x : `\"u8\" ;", "x : u8 `", "x : u8 `8 ;", "x : u8 `u8 ;", "x : u8 `, ",
		"x : u8 \"a\" `\"b\" ;", "x : u8 \"a\" `5 ;", "x : u8 `( 1 ) ;", "x : bytes `;", "x : bytes `5 ;", "x : bytes ( `) ;", "x : bytes ( 1 `;", "x : text ( 1 `, 2 ) ;", "x : text ( 1 ) `8 ;", "x : low `bytes ( 1 ) ;", "x : low `text ( 1 ) ;", "x : low `low u8 ;", "x : low `8 ;", "x : low `",
		// how many bits
		"x : u `;", "x : u `u8 ;", "x : u `\"8\" ;", "x : u `( 8 ) ;", "x : u `- 8 ;", "x : u `0 ;", "x : u `49 ;", "x : i `0 ;", "x : i `49 ;", "x : u `281474976710655 ;", "x : `u0 ;", "x : `u49 ;", "x : `i0 ;", "x : `i49 ;", "x : `i999999999999999 ;", "x : `u8x ;", "x : `u_8 ;", "x : `u1.2 ;", "x : `u8.a ;", "x : `ux ;", "x : `i1.2.3.4 ;",
		"x : low u `12 ;", "x : low `u12 ;", "x : low i `1 ;", "x : low `i1 ;", "x : low `u7 ;", "x : low `u47 ;", "x : low u `47 ;", "x : low `u56 ;", "x : low u `56 ;", "x : low `u0 ;", "x : low u `0 ;", "x : low u `;",
		// expressions
		"let `let = 1 ;", "let a `: 1 ;", "let a = `;", "let a = 1 `", "let a = 1 `} ", "let a = 1 `1 ;", "let a = a `b ;", "let a = `text ;", "let a = `low ;", "let a = `\"a\" ;", "let a = @ `left ;", "let a = @ `5 ;", "let a = @ `@ p ;", "let a = @ `( p ) ;", "let a = left `left ;", "let a = ( `) ;", "let a = ( 1 `;", "let a = ( 1 `] ;", "let a = 1 `) ;", "let a = 1 `. ;", "let a = 1 `# ;", "let a = 1 `= 1 ;",
		"let a = `+ 1 ;", "let a = `* 1 ;", "let a = `&& b ;", "let a = 1 + `;", "let a = 1 + `+ 1 ;", "let a = 1 `! 1 ;", "let a = 1 `~ 1 ;", "let a = - `;", "let a = ! `= 1 ;", "let a = b == c `== d ;", "let a = b < c `> d ;", "let a = b | c == d `!= e ;", "let a = b ? `: c ;", "let a = b ? c `;", "let a = b ? c : `;", "let a = b ? c : d `: e ;", "let a = b `: c ;", "let a = b ? c ? d : e `;",
		"stop `;", "stop 1 `: \"a\" ;", "stop `if ( 1 ) { }",
		// checks
		"check `: \"a\" ;", "check x `;", "check x `\"a\" ;", "check x : `;", "check x : `2 ;", "check x : `a ;", "check x : \"a\" `\"b\" ;", "check x : \"a\" `a ;", "check x : \"a\" 2 `2 ;", "check x : \"a\" `5 ;", "check x : \"a\" `281474976710655 ;", "check x : \"a\" `- 1 ;", "check x ? y : `\"a\" ;", "check x : \"a\" `",
		"check x : `\"" + strings.Repeat("n", 41) + "\" ;", "check x : `\"" + strings.Repeat(`\x00`, 41) + "\" 9 ;", "x : u8 `\"" + strings.Repeat("n", 41) + "\" ;", "x : bytes ( 1 ) `\"" + strings.Repeat("n", 200) + "\" ;",
		// blocks
		"if `1 { }", "if ( `) { }", "if ( 1 `{ }", "if ( 1 ) `;", "if ( 1 ) `x : u8 ;", "if ( 1 ) { } else `;", "if ( 1 ) { } else `if ( 1 ) { }", "if ( 1 ) { } else { } `else { }", "`else { }", "if ( 1 ) { `else { } }", "if ( 1 ) { `; }",
		"choose `{ }", "choose ( 1 ) `case 1 : { }", "choose ( 1 ) { `x : u8 ; }", "choose ( 1 ) { case `: { } }", "choose ( 1 ) { case `a : { } }", "choose ( 1 ) { case `- 1 : { } }", "choose ( 1 ) { case 1 `{ } }", "choose ( 1 ) { case 1 : `x : u8 ; }", "choose ( 1 ) { case 1 : { } `; }", "choose ( 1 ) { case 1 `, 2 : { } }", "choose ( 1 ) { default `{ } }", "choose ( 1 ) { default `5 : { } }", "choose ( 1 ) { default : { } `case 1 : { } }", "choose ( 1 ) { default : { } `default : { } }", "`case 1 : { }", "`default : { }",
		"choose ( 1 ) { case 1 : { } case 2 : { } case `1 : { } }", "choose ( 1 ) { case 0x10 : { } case `16 : { } }", "choose ( 1 ) { case 0 : { } case `0",
		"repeat `{ }", "repeat ( 1 ) `;", "repeat ( `) { }", "until `( 1 ) { }", "until `;", "within `{ }", "within ( left ) `;", "sub `{ }", "sub `sub { }", "sub s `;", "sub s `( 1 ) { }", "sub `\"s\" { }",
		// calls
		"goes `;", "goes `goes ;", "goes `5 ;", "goes a `, b ;", "goes a `( 1 ) ;", "goes a `}", "next `( 1 ) ;", "next t `;", "next t `1 ;", "next t ( `) ;", "next t ( 1 ) `{ }", "next `text ( 1 ) ;", "try `;", "try a `b ;", "try a , `;", "try a , `try ;", "try `5 ;", "try a , b `: ;", "try a , `, b ;",
		// the braces' ends
		"x : u8 ; `)", "`left : u8 ;", "`bytes : u8 ;", "`here ;", "`low : u8 ;", "`text : u8 ;",
	} {
		source, at := marked(t, s)
		fails(t, "proto a { "+source+" }", at+3, api.ErrSyntax)
		fails(t, "proto a { } proto b { y : u8 ; sub s { "+source+" } }", at+14, api.ErrSyntax)
	}
	for _, s := range []string{"`", "`proto", "`;", "1 `1", "a `b", "( a `", "( a ) `)", "a ? b `", "a ? b : c `: d", "a == b `== c", "a == b `< c", "- `", "a + `", "@ `", "@ `here", "`\"a\"", "a `,", "`bytes ( 1 )"} {
		source, at := marked(t, s)
		failsExpr(t, source, at, api.ErrSyntax)
	}
}

// TestParseKeywordsAsNames has each keyword wherever a name may stand.
func TestParseKeywordsAsNames(t *testing.T) {
	for _, k := range tree.Keywords() {
		for _, s := range []string{
			"proto `K { }", "proto a { let `K = 1 ; }", "proto a { sub `K { } }", "proto a { goes `K ; }", "proto a { next `K ( 1 ) ; }", "proto a { try `K ; }", "proto a { try b , `K ; }", "proto a { stop @ `K ; }",
		} {
			source, at := marked(t, strings.ReplaceAll(s, "K", k))
			fails(t, source, at, api.ErrSyntax)
		}
		at := 4 // where the keyword is an item's, what stands behind it does not fit
		if strings.Contains(" bytes text left here low else case default proto ", " "+k+" ") {
			at = 3
		}
		fails(t, "proto a { "+k+" : u8 ; }", at, api.ErrSyntax)
		if k != "left" && k != "here" {
			failsExpr(t, "1 + "+k, 2, api.ErrSyntax)
		}
	}
}

// nested returns blocks in each other: so many items, with something in the innermost one.
func nested(items int, inner string) string {
	return strings.Repeat("until{", items) + inner + strings.Repeat("}", items)
}

// times returns a text so often.
func times(n int, s string) string { return strings.Repeat(s, n) }

func TestParseLimits(t *testing.T) {
	fits := func(s string) {
		t.Helper()
		if l, n, e := tree.Parse(s); e != api.OK || n == 0 || tree.Validate(l) != api.OK {
			t.Errorf("Parse of %.100q: %d, %d", s, n, e)
		}
	}
	tooLarge := func(s string) {
		t.Helper()
		fails(t, s, 0, api.ErrLarge)
	}
	// protocols
	fits(times(30, "proto a{}"))
	tooLarge(times(31, "proto a{}"))
	fails(t, times(31, "proto a{}")+";", 124, api.ErrSyntax)
	// nodes: protocols, items, expressions
	fits("proto a{" + times(266, "let a=-b;") + "x:u8;}")
	tooLarge("proto a{" + times(266, "let a=-b;") + "x:u8;x:u8;}")
	fails(t, "proto a{"+times(266, "let a=-b;")+"x:u8;x:u8;", 3+266*6+8, api.ErrSyntax) // before the limits
	mixed := times(100, "until{}") + times(100, "sub b{stop - - a;goes c;}") + times(33, "stop - a;")
	fits("proto a{" + mixed + "}")
	tooLarge("proto a{" + mixed + "goes c;}")
	fits("proto a{goes c;}" + "proto b{" + times(397, "stop 1;") + "x:u8;try a;}proto c{}")
	tooLarge("proto a{goes c;}" + "proto b{" + times(397, "stop 1;") + "x:u8;try a;}proto c{}proto d{}")
	// what is no node
	fits("proto a{try a" + times(990, ",b") + ";}")
	cases := ""
	for i := range 300 {
		cases += "case " + string([]byte{'1', byte('0' + i/100), byte('0' + i/10%10), byte('0' + i%10)}) + ":{}"
	}
	fits("proto a{choose(1){" + cases + "}}")
	// levels
	fits("proto a{" + nested(13, "") + "}")
	tooLarge("proto a{" + nested(14, "") + "}")
	fits("proto a{" + nested(11, "stop 1;") + "}")
	fits("proto a{" + nested(12, "x:u8;") + "}")
	tooLarge("proto a{" + nested(12, "stop 1;") + "}")
	tooLarge("proto a{" + nested(11, "stop -1;") + "}")
	tooLarge("proto a{" + nested(12, "if (1) {}") + "}")
	tooLarge("proto a{" + nested(11, "if (1) {} else { until { x: u8; } }") + "}")
	tooLarge("proto a{" + nested(11, "choose (1) { case 1: {} default: { until { x: u8; } } }") + "}")
	fits("proto a{stop " + times(11, "-") + "1;}")
	tooLarge("proto a{stop " + times(12, "-") + "1;}")
	fits("proto a{x: bytes(1" + times(11, "+1") + ");}")
	tooLarge("proto a{x: bytes(1" + times(12, "+1") + ");}")
	fits("proto a{stop " + times(200, "(") + "1" + times(200, ")") + ";}")
}

func TestParseExprLimits(t *testing.T) {
	fits := func(s string) {
		t.Helper()
		if x, n, e := tree.ParseExpr(s); e != api.OK || n == 0 || tree.ValidateExpr(x) != api.OK {
			t.Errorf("ParseExpr of %.100q: %d, %d", s, n, e)
		}
	}
	tooLarge := func(s string) {
		t.Helper()
		failsExpr(t, s, 0, api.ErrLarge)
	}
	fits(times(13, "-") + "1")
	tooLarge(times(14, "-") + "1")
	fits("1" + times(13, "+1"))
	tooLarge("1" + times(14, "+1"))
	fits(times(13, "1?2:") + "3")
	tooLarge(times(14, "1?2:") + "3")
	fits(times(900, "(") + "1" + times(900, ")"))
	tooLarge("(" + times(14, "-") + "1)")
	failsExpr(t, times(14, "-")+"1 1", 15, api.ErrSyntax)
	fits(tree81(31))
	tooLarge(tree81(32))
}

// tree81 returns a source of 769 nodes and so many more, of 14 levels: conditions in each other with 81 signs, of which so many are longer by one.
func tree81(more int) string {
	var l []string
	for i := range 81 {
		l = append(l, times(8, "-")+times(min(1, max(0, more-i)), "!")+"1")
	}
	for len(l) > 1 {
		var next []string
		for i := 0; i < len(l); i += 3 {
			next = append(next, "("+l[i]+"?"+l[i+1]+":"+l[i+2]+")")
		}
		l = next
	}
	return l[0]
}
