package lex_test

import (
	"strings"
	"testing"

	"wireglass/api"
	"wireglass/lex"
)

// signs are the signs, as the chapter lists them.
const signs = `{ } ( ) [ ] , ; : ? + - * / % & | ^ ~ << >> == != < <= > >= && || ! = . .. # @`

func word(s string) api.Token { return api.Token{Kind: api.KWord, Text: s} }
func num(n int) api.Token     { return api.Token{Kind: api.KNum, N: n} }
func str(s string) api.Token  { return api.Token{Kind: api.KStr, Text: s} }
func sign(s string) api.Token { return api.Token{Kind: api.KSign, Text: s} }

// at returns a token at a place.
func at(n int, t api.Token) api.Token {
	t.At = n
	return t
}

// alike tells whether tokens are the same in all their fields.
func alike(a, b []api.Token) bool {
	if len(a) != len(b) {
		return false
	}
	for i := range a {
		if a[i] != b[i] {
			return false
		}
	}
	return true
}

// lexes makes sure that a source has just these tokens, places included.
func lexes(t *testing.T, s string, want ...api.Token) {
	t.Helper()
	if l, n, e := lex.Lex(s); !alike(l, want) || n != len(want) || e != api.OK {
		t.Errorf("Lex of %q: %v, %d, %d; not %v", s, l, n, e, want)
	}
}

// reads makes sure that a source has just these tokens, wherever they are.
func reads(t *testing.T, s string, want ...api.Token) {
	t.Helper()
	l, n, e := lex.Lex(s)
	for i := range l {
		l[i].At = 0
	}
	if !alike(l, want) || n != len(want) || e != api.OK {
		t.Errorf("Lex of %q: %v, %d, %d; not %v", s, l, n, e, want)
	}
}

// wrong makes sure that a source is wrong at a place.
func wrong(t *testing.T, s string, place int) {
	t.Helper()
	if l, n, e := lex.Lex(s); len(l) != 0 || n != place || e != api.ErrSyntax {
		t.Errorf("Lex of %q: %v, %d, %d; not wrong at %d", s, l, n, e, place)
	}
}

func TestLexTellsPlaces(t *testing.T) {
	lexes(t, "")
	lexes(t, "a.b..c", at(0, word("a.b")), at(3, sign("..")), at(5, word("c")))
	lexes(t, "10.0.0.1", at(0, num(167772161)))
	lexes(t, `"a\x00"`, at(0, str("a\x00")))
	lexes(t, "\n\tproto a { n: u8; }",
		at(2, word("proto")), at(8, word("a")), at(10, sign("{")), at(12, word("n")), at(13, sign(":")),
		at(15, word("u8")), at(17, sign(";")), at(19, sign("}")))
	lexes(t, `x<="y\n" // z`+"\n 0xF", at(0, word("x")), at(1, sign("<=")), at(3, str("y\n")), at(15, num(15)))
}

func TestLexBlanks(t *testing.T) {
	for _, s := range []string{
		" ", "\t", "\n", " \t\n \n", "//", "///", "// a", "//\n", "// \"a\n//b\n\n//", "//0x 300.1.1.1 ` $ ' \\ \" ~\t", "//" + strings.Repeat("a", 300),
	} {
		lexes(t, s)
		for _, ends := range []string{"\n", "\n\n", "\n\t ", "\n//\n"} {
			reads(t, "a"+s+ends+"b", word("a"), word("b"))
			reads(t, s+ends+"5"+s, num(5))
		}
	}
	reads(t, "a//b", word("a"))
	reads(t, "a/b", word("a"), sign("/"), word("b"))
	reads(t, "a/ /b", word("a"), sign("/"), sign("/"), word("b"))
	reads(t, "a///b\n/c", word("a"), sign("/"), word("c"))
	reads(t, `"//a" // b`, str("//a"))
	reads(t, "1//2\n3", num(1), num(3))
}

func TestLexWords(t *testing.T) {
	for _, s := range []string{
		"a", "Z", "z", "A", "_", "__", "a0", "_0", "a_b", "a.b", "a.0", "a._", "_.0", "a.b.c.d", "a.0.0.1", "u16", "x0", "e0x10", "aB9_.zZ0.9._", "abcdefghijklmnop", "a.b.c.d.e.f.g.hi",
	} {
		lexes(t, s, at(0, word(s)))
		lexes(t, " "+s+" ", at(1, word(s)))
		reads(t, s+".", word(s), sign("."))
		reads(t, s+"."+".", word(s), sign(".."))
		reads(t, s+".. "+s, word(s), sign(".."), word(s))
		reads(t, s+". "+s, word(s), sign("."), word(s))
		reads(t, "."+s, sign("."), word(s))
		reads(t, s+`"b"`+s, word(s), str("b"), word(s))
		reads(t, s+"-1", word(s), sign("-"), num(1))
	}
	reads(t, "a...b", word("a"), sign(".."), sign("."), word("b"))
	for c := range 256 {
		if alone := string([]byte{byte(c)}); c == '_' || c >= 'a' && c <= 'z' || c >= 'A' && c <= 'Z' {
			lexes(t, alone, at(0, word(alone)))
			lexes(t, "x"+alone, at(0, word("x"+alone)))
			lexes(t, "x."+alone, at(0, word("x."+alone)))
		}
	}
}

func TestLexWordsThatAreTooLong(t *testing.T) {
	wrong(t, "abcdefghijklmnopq", 0)
	wrong(t, "a abcdefghijklmnopq b", 2)
	wrong(t, "a.b.c.d.e.f.g.h.i", 0)
	wrong(t, "_234567890123456.7", 0)
	wrong(t, strings.Repeat("a", api.MaxSource), 0)
	wrong(t, "abcdefghijklmnopq\x00", 0)
	reads(t, "abcdefghijklmnop.", word("abcdefghijklmnop"), sign("."))
	reads(t, "abcdefghijklmnop abcdefghijklmnop", word("abcdefghijklmnop"), word("abcdefghijklmnop"))
}

func TestLexNumbers(t *testing.T) {
	for _, c := range []struct {
		s    string
		want int
	}{
		{"0", 0}, {"7", 7}, {"42", 42}, {"007", 7}, {"00", 0}, {"281474976710655", 1<<48 - 1},
		{"0000000000000000000000000000281474976710655", 1<<48 - 1},
		{"0x0", 0}, {"0xf", 15}, {"0xF", 15}, {"0xaBcDeF", 0xabcdef}, {"0x09", 9}, {"0x000000000000000000ff", 255},
		{"0xffffffffffff", 1<<48 - 1}, {"0xFFFFFFFFFFFF", 1<<48 - 1},
		{"0.0.0.0", 0}, {"0.0.0.255", 255}, {"1.2.3.4", 0x01020304}, {"255.255.255.255", 1<<32 - 1}, {"192.168.0.1", 0xc0a80001}, {"001.02.3.0004", 0x01020304},
	} {
		lexes(t, c.s, at(0, num(c.want)))
		reads(t, "-"+c.s+"+", sign("-"), num(c.want), sign("+"))
		reads(t, c.s+".", num(c.want), sign("."))
		reads(t, c.s+"..", num(c.want), sign(".."))
		reads(t, c.s+".."+c.s, num(c.want), sign(".."), num(c.want))
		reads(t, "."+c.s, sign("."), num(c.want))
		reads(t, c.s+".x", num(c.want), sign("."), word("x"))
	}
}

func TestLexNumbersEndWhereTheyGoNoFurther(t *testing.T) {
	reads(t, "1a", num(1), word("a"))
	reads(t, "16u16", num(16), word("u16"))
	reads(t, "1_0", num(1), word("_0"))
	reads(t, "0xfg", num(15), word("g"))
	reads(t, "0x1x2", num(1), word("x2"))
	reads(t, "00x1", num(0), word("x1"))
	reads(t, "0X1", num(0), word("X1"))
	reads(t, "0x1.0x2", num(1), sign("."), num(2))
	reads(t, "0xa.b", num(10), sign("."), word("b"))
	reads(t, "1.2.3.4x", num(0x01020304), word("x"))
	reads(t, "1.2.3.0x4", num(0x01020300), word("x4"))
	reads(t, "1 .2", num(1), sign("."), num(2))
	reads(t, "1. 2", num(1), sign("."), num(2))
	reads(t, "1.2.3.4 .5", num(0x01020304), sign("."), num(5))
	reads(t, `1"2"3`, num(1), str("2"), num(3))
}

func TestLexNumbersThatAreWrong(t *testing.T) {
	for _, s := range []string{
		"281474976710656", "999999999999999", "18446744073709551616", "18446744073709551617", "9223372036854775808", strings.Repeat("9", 300),
		"0x", "0x1000000000000", "0xfffffffffffffffff", "0x" + strings.Repeat("f", 300),
		"1.2", "1.2.3", "1.2.3.4.5", "1.2.3.4.5.6.7.8", "0.0",
		"256.0.0.0", "0.256.0.0", "0.0.256.0", "0.0.0.256", "300.1.1.1", "1.1.1.1000", "1.1.1.18446744073709551616",
	} {
		wrong(t, s, 0)
		wrong(t, "a "+s, 2)
		for _, behind := range []string{" ", ".", "..", " 0x", "+1", "x", "\x00"} {
			if s == "0x" || !strings.HasPrefix(s, "0x") || behind != "x" {
				wrong(t, s+behind, 0)
			}
		}
	}
	wrong(t, "0xg", 0)
	wrong(t, "0x.1", 0)
	wrong(t, "0x_", 0)
	wrong(t, "0x", 0)
	wrong(t, "0x1.2.3", 4)
	wrong(t, "0.0x1", 0)
	wrong(t, "1.2.3.x", 0)
	wrong(t, "..1.5", 2)
}

func TestLexTexts(t *testing.T) {
	for _, c := range []struct{ s, want string }{
		{`""`, ""}, {`"a"`, "a"}, {`"a b"`, "a b"}, {"\"\t\"", "\t"}, {`"\""`, `"`}, {`"\\"`, `\`}, {`"\n"`, "\n"}, {`"\\n"`, `\n`},
		{`"\x00"`, "\x00"}, {`"\x61\xff\xFF\xaB"`, "a\xff\xff\xab"}, {`"\x411"`, "A1"}, {`"\\\""`, `\"`}, {`"//"`, "//"}, {`"'$"`, "'$"},
		{`"` + strings.Repeat("a", api.MaxText) + `"`, strings.Repeat("a", api.MaxText)},
		{`"` + strings.Repeat(`\x80`, api.MaxText) + `"`, strings.Repeat("\x80", api.MaxText)},
		{`"` + strings.Repeat(`\\`, api.MaxText) + `"`, strings.Repeat(`\`, api.MaxText)},
	} {
		lexes(t, c.s, at(0, str(c.want)))
		lexes(t, c.s+c.s, at(0, str(c.want)), at(len(c.s), str(c.want)))
		reads(t, "a"+c.s+"b", word("a"), str(c.want), word("b"))
	}
	for c := 32; c <= 126; c++ {
		if s := string(rune(c)); c != '"' && c != '\\' {
			lexes(t, `"`+s+`"`, at(0, str(s)))
		}
	}
}

func TestLexTextsThatAreWrong(t *testing.T) {
	for _, s := range []string{
		`"`, `"a`, `"\`, `"\"`, `"\\\"`, `"\x`, `"\x0`, `"\x00`, "\"\n\"", "\"a\nb\"", "\"\\\n\"",
		`"\a"`, `"\t"`, `"\N"`, `"\X00"`, `"\0"`, `"\x"`, `"\x0"`, `"\x0g"`, `"\xg0"`, `"\x 0"`, `"\x+1"`, `"\x-1"`, `"\x_1"`, `"\'"`, `"\ "`,
		"\"\x00\"", "\"\r\"", "\"\x1f\"", "\"\x7f\"", "\"\x80\"", "\"abc\xff\"", "\"\\\x80\"", "\"é\"", "\"a\x80", "\"a\x80\n",
		`"` + strings.Repeat("a", api.MaxText+1) + `"`,
		`"` + strings.Repeat(`\n`, api.MaxText+1) + `"`,
		`"` + strings.Repeat("a", api.MaxText+1) + "\x00",
	} {
		wrong(t, s, 0)
		wrong(t, "a  "+s, 3)
		wrong(t, s+"\x00", 0)
		wrong(t, `"//"//"`+"\n"+s, 8)
	}
}

func TestLexSigns(t *testing.T) {
	all := strings.Fields(signs)
	if len(all) != 35 {
		t.Fatalf("there are %d signs", len(all))
	}
	var want []api.Token
	for _, s := range all {
		lexes(t, s, at(0, sign(s)))
		reads(t, "a "+s+" 1", word("a"), sign(s), num(1))
		reads(t, `"a"`+s+`"b"`, str("a"), sign(s), str("b"))
		want = append(want, sign(s))
	}
	reads(t, signs, want...)
	for _, c := range []struct{ s, want string }{
		{"<<=", "<< ="}, {"<<<", "<< <"}, {"<<<<", "<< <<"}, {">>=", ">> ="}, {"<=>", "<= >"}, {"===", "== ="}, {"!==", "!= ="}, {"=!=", "= !="}, {"!!=", "! !="},
		{"&&&", "&& &"}, {"|||", "|| |"}, {"...", ".. ."}, {"....", ".. .."}, {"=<", "= <"}, {"><", "> <"}, {"=>", "= >"}, {"<>", "< >"}, {"::", ": :"}, {"++", "+ +"}, {"--", "- -"}, {"**", "* *"},
		{"{}()[]", "{ } ( ) [ ]"}, {"+=", "+ ="}, {"~=", "~ ="}, {"&|", "& |"}, {"^^", "^ ^"}, {"@@", "@ @"}, {"##", "# #"}, {"/*", "/ *"}, {"%%", "% %"},
	} {
		var want []api.Token
		for s := range strings.FieldsSeq(c.want) {
			want = append(want, sign(s))
		}
		reads(t, c.s, want...)
	}
}

func TestLexBytesThatAreNoToken(t *testing.T) {
	for c := range 256 {
		s := string([]byte{byte(c)})
		if c == 9 || c == 10 || c >= 32 && c <= 126 {
			lexes(t, "//"+s)
			continue
		}
		for _, before := range []string{"", "a", "a ", "1", "<", `"a"`, "//", "// ", "//a\n//b", "\n"} {
			wrong(t, before+s, len(before))
			wrong(t, before+s+"\"", len(before))
		}
		wrong(t, "\""+s+"\"", 0)
	}
	for _, s := range []string{"$", "'", "`", `\`} {
		wrong(t, s, 0)
		wrong(t, "a"+s+"b", 1)
		wrong(t, "1.1.1.1"+s, 7)
		wrong(t, "<="+s, 2)
	}
}

func TestLexTheFirstPlaceDecides(t *testing.T) {
	wrong(t, "0x $ \x00", 0)
	wrong(t, "$ 0x", 0)
	wrong(t, "a // \x00\n$", 5)
	wrong(t, "a // b\n$ \"\x00\"", 7)
	wrong(t, "a \"b\x00\" $", 2)
	wrong(t, "300.1.1.1 abcdefghijklmnopq", 0)
	wrong(t, "abcdefghijklmnopq 300.1.1.1", 0)
}

func TestLexLimits(t *testing.T) {
	lexes(t, strings.Repeat(" ", api.MaxSource))
	for _, s := range []string{
		strings.Repeat(" ", api.MaxSource+1),
		strings.Repeat("$", api.MaxSource+1), // before ErrSyntax
		strings.Repeat("\x00", 2*api.MaxSource),
		strings.Repeat("+", api.MaxSource), // tokens
		strings.Repeat("+", api.MaxTokens+1),
		strings.Repeat("a ", api.MaxTokens+1),
	} {
		if l, n, e := lex.Lex(s); len(l) != 0 || n != 0 || e != api.ErrLarge {
			t.Errorf("Lex of %q..: %d, %d, %d", s[:5], len(l), n, e)
		}
	}
	for _, s := range []string{strings.Repeat("+", api.MaxTokens), strings.Repeat("a ", api.MaxTokens), strings.Repeat("1;", api.MaxTokens/2) + "// +"} {
		if l, n, e := lex.Lex(s); len(l) != api.MaxTokens || n != api.MaxTokens || e != api.OK {
			t.Errorf("Lex of %q..: %d, %d, %d", s[:5], len(l), n, e)
		}
	}
	wrong(t, strings.Repeat("+", api.MaxTokens+1)+"$", api.MaxTokens+1) // ErrSyntax comes first
	wrong(t, strings.Repeat(" ", api.MaxSource-1)+"$", api.MaxSource-1)
}
