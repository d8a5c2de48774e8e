package lex_test

import (
	"math"
	"slices"
	"strings"
	"testing"

	"wireglass/api"
	"wireglass/lex"
)

func TestText(t *testing.T) {
	for _, c := range []struct {
		l    []api.Token
		want string
	}{
		{nil, ""},
		{[]api.Token{}, ""},
		{[]api.Token{word("a")}, "a"},
		{[]api.Token{word("a.b"), sign(".."), word("c")}, "a.b .. c"},
		{[]api.Token{num(0), num(167772161), num(1<<48 - 1)}, "0 167772161 281474976710655"},
		{[]api.Token{str(""), str("a\n\"\\\x00\t")}, `"" "a\n\"\\\x00\x09"`},
		{[]api.Token{sign("/"), sign("/"), sign("<"), sign("=")}, "/ / < ="},
		{[]api.Token{word("u"), num(16), sign(";")}, "u 16 ;"},
		{[]api.Token{at(7, word("a")), at(-1, num(1)), at(7, sign("."))}, "a 1 ."}, // places do not matter
		{[]api.Token{str(strings.Repeat("a", api.MaxText))}, `"` + strings.Repeat("a", api.MaxText) + `"`},
		{slices.Repeat([]api.Token{sign("<<")}, api.MaxTokens), strings.Repeat("<< ", api.MaxTokens-1) + "<<"},
	} {
		was := slices.Clone(c.l)
		s, e := lex.Text(c.l)
		if s != c.want || e != api.OK {
			t.Errorf("Text of %v: %q, %d; not %q", c.l, s, e, c.want)
		}
		if !alike(c.l, was) {
			t.Errorf("Text changed its argument")
		}
		l, n, e := lex.Lex(s)
		if !lex.Same(l, c.l) || n != len(c.l) || e != api.OK {
			t.Errorf("Lex of %q: %v, %d, %d", s, l, n, e)
		}
	}
}

func TestTextErrors(t *testing.T) {
	long := strings.Repeat("a", api.MaxText+1)
	full := str(strings.Repeat("\x00", api.MaxText)) // 802 bytes
	for _, c := range []struct {
		l    []api.Token
		want api.Errno
	}{
		// The errors of Lex.
		{[]api.Token{word("abcdefghijklmnopq")}, api.ErrSyntax},
		{[]api.Token{word("a$")}, api.ErrSyntax},
		{[]api.Token{sign("$")}, api.ErrSyntax},
		{[]api.Token{sign("\x80")}, api.ErrSyntax},
		{[]api.Token{word(`"`)}, api.ErrSyntax},
		{[]api.Token{num(1 << 48)}, api.ErrSyntax},
		{[]api.Token{num(math.MaxInt)}, api.ErrSyntax},
		{[]api.Token{num(math.MinInt)}, api.ErrSyntax},
		{[]api.Token{str(long)}, api.ErrSyntax},
		{[]api.Token{word(""), sign("`")}, api.ErrSyntax}, // before ErrArg
		{[]api.Token{{Kind: 4, Text: "a"}, num(1 << 48)}, api.ErrSyntax},
		{slices.Repeat([]api.Token{full}, 8), api.ErrLarge},
		{[]api.Token{str(strings.Repeat("a", api.MaxSource))}, api.ErrLarge},
		{[]api.Token{word("$" + strings.Repeat("a", api.MaxSource))}, api.ErrLarge},
		{slices.Repeat([]api.Token{sign("+")}, api.MaxTokens+1), api.ErrLarge},
		{slices.Repeat([]api.Token{word("")}, api.MaxSource+2), api.ErrLarge},
		// What is no token, or another one.
		{[]api.Token{word("")}, api.ErrArg},
		{[]api.Token{sign("")}, api.ErrArg},
		{[]api.Token{word("a b")}, api.ErrArg},
		{[]api.Token{word(" a")}, api.ErrArg},
		{[]api.Token{word("a.")}, api.ErrArg},
		{[]api.Token{word("1")}, api.ErrArg},
		{[]api.Token{word(".")}, api.ErrArg},
		{[]api.Token{sign("a")}, api.ErrArg},
		{[]api.Token{sign("===")}, api.ErrArg},
		{[]api.Token{sign("< =")}, api.ErrArg},
		{[]api.Token{sign("//")}, api.ErrArg},
		{[]api.Token{sign("//"), word("a")}, api.ErrArg},
		{[]api.Token{word("a//b")}, api.ErrArg},
		{[]api.Token{word("a\n")}, api.ErrArg},
		{[]api.Token{word(`"a"`)}, api.ErrArg},
		{[]api.Token{num(-1)}, api.ErrArg},
		{[]api.Token{num(-(1<<48 - 1))}, api.ErrArg},
		{[]api.Token{{Kind: api.KWord, Text: "a", N: 1}}, api.ErrArg},
		{[]api.Token{{Kind: api.KStr, Text: "a", N: 1}}, api.ErrArg},
		{[]api.Token{{Kind: api.KSign, Text: "+", N: -1}}, api.ErrArg},
		{[]api.Token{{Kind: api.KNum, Text: "5", N: 5}}, api.ErrArg},
		{[]api.Token{{Kind: 4, Text: "a"}}, api.ErrArg},
		{[]api.Token{{Kind: -1}}, api.ErrArg},
		{[]api.Token{word("a"), {Kind: math.MaxInt, Text: "5", N: 5}}, api.ErrArg},
	} {
		if s, e := lex.Text(c.l); s != "" || e != c.want {
			t.Errorf("Text of %.80v: %.80q, %d; not %d", c.l, s, e, c.want)
		}
	}
	if s, e := lex.Text(slices.Repeat([]api.Token{full}, 7)); len(s) != 7*802+6 || e != api.OK {
		t.Errorf("Text of long texts: %d bytes, %d", len(s), e)
	}
}

func TestQuote(t *testing.T) {
	for _, c := range []struct{ s, want string }{
		{"", `""`}, {"a b", `"a b"`}, {`"`, `"\""`}, {`\`, `"\\"`}, {"\n", `"\n"`}, {`\n`, `"\\n"`}, {"\t", `"\x09"`}, {"\r", `"\x0d"`}, {"\x00", `"\x00"`},
		{"\x1f !~\x7f\x80\xab\xff", `"\x1f !~\x7f\x80\xab\xff"`}, {"é", `"\xc3\xa9"`}, {"//'$`", "\"//'$`\""},
		{strings.Repeat("\xfe", api.MaxText), `"` + strings.Repeat(`\xfe`, api.MaxText) + `"`},
	} {
		if s, e := lex.Quote(c.s); s != c.want || e != api.OK {
			t.Errorf("Quote of %q: %q, %d; not %q", c.s, s, e, c.want)
		}
	}
	for c := range 256 {
		text := "x" + string([]byte{byte(c)}) + "0"
		s, e := lex.Quote(text)
		if e != api.OK {
			t.Fatalf("Quote of %q: %d", text, e)
		}
		lexes(t, s, at(0, str(text)))
		if plain := `"` + text + `"`; (c >= 32 && c <= 126 && c != '"' && c != '\\') != (s == plain) {
			t.Errorf("Quote of %q: %q", text, s)
		}
	}
	if s, e := lex.Quote(strings.Repeat("a", api.MaxText+1)); s != "" || e != api.ErrLarge {
		t.Errorf("Quote of one byte too many: %q, %d", s, e)
	}
}

func TestNumber(t *testing.T) {
	for _, c := range []struct {
		n    int
		want string
	}{{0, "0"}, {7, "7"}, {-7, "-7"}, {1<<48 - 1, "281474976710655"}, {math.MaxInt, "9223372036854775807"}, {math.MinInt, "-9223372036854775808"}} {
		if s := lex.Number(c.n); s != c.want {
			t.Errorf("Number of %d: %q", c.n, s)
		}
	}
}

func TestIsWord(t *testing.T) {
	for _, s := range []string{"a", "_", "Z9", "a.b", "a.0", "_._", "abcdefghijklmnop", "a.b.c.d.e.f.g.hi", "proto", "u16"} {
		if !lex.IsWord(s) {
			t.Errorf("%q is no word", s)
		}
	}
	for _, s := range []string{
		"", " ", "a ", " a", "a b", "0", "0a", "1.a", ".", ".a", "a.", "a..b", "a.b.", "a-b", "a$", "a\n", "a//", "a\x00", "\x80", "é", "aé", `"a"`, "abcdefghijklmnopq", "a.b.c.d.e.f.g.h.i", strings.Repeat("a", api.MaxSource+1),
	} {
		if lex.IsWord(s) {
			t.Errorf("%q is a word", s)
		}
	}
}

func TestSame(t *testing.T) {
	a := []api.Token{at(0, word("a")), at(1, num(1)), at(2, str("b")), at(5, sign("+"))}
	moved := []api.Token{at(9, word("a")), at(9, num(1)), at(9, str("b")), at(9, sign("+"))}
	if !lex.Same(a, a) || !lex.Same(a, moved) || !lex.Same(nil, nil) || !lex.Same(nil, []api.Token{}) {
		t.Errorf("the same tokens are not the Same")
	}
	for i := range a {
		for _, other := range []api.Token{
			{Kind: a[i].Kind + 1, N: a[i].N, Text: a[i].Text},
			{Kind: a[i].Kind, N: a[i].N + 1, Text: a[i].Text},
			{Kind: a[i].Kind, N: a[i].N, Text: a[i].Text + "x"},
		} {
			b := slices.Clone(a)
			b[i] = other
			if lex.Same(a, b) || lex.Same(b, a) {
				t.Errorf("%v and %v are the Same", a, b)
			}
		}
	}
	if lex.Same(a, a[:3]) || lex.Same(a[:3], a) || lex.Same(a, nil) || lex.Same(nil, a) {
		t.Errorf("more tokens are the Same")
	}
}

func TestLine(t *testing.T) {
	s := "ab\n\nc\x00\xff\nd"
	line, column := 1, 1
	for i := range len(s) + 1 {
		if l, c, e := lex.Line(s, i); l != line || c != column || e != api.OK {
			t.Errorf("Line of %d: %d, %d, %d; not %d, %d", i, l, c, e, line, column)
		}
		column++
		if i < len(s) && s[i] == '\n' {
			line, column = line+1, 1
		}
	}
	for _, c := range []struct {
		s                string
		at, line, column int
	}{
		{"", 0, 1, 1}, {"\n", 0, 1, 1}, {"\n", 1, 2, 1}, {"a\n", 1, 1, 2}, {"a\n", 2, 2, 1}, {"a\r\nb", 3, 2, 1},
		{strings.Repeat("\n", api.MaxSource), api.MaxSource, api.MaxSource + 1, 1},
		{strings.Repeat("x", api.MaxSource), api.MaxSource, 1, api.MaxSource + 1},
	} {
		if l, k, e := lex.Line(c.s, c.at); l != c.line || k != c.column || e != api.OK {
			t.Errorf("Line of %.20q at %d: %d, %d, %d", c.s, c.at, l, k, e)
		}
	}
}

func TestLineErrors(t *testing.T) {
	large := strings.Repeat("\n", api.MaxSource+1)
	for _, c := range []struct {
		s    string
		at   int
		want api.Errno
	}{
		{large, 0, api.ErrLarge}, {large, -1, api.ErrLarge}, {large, math.MaxInt, api.ErrLarge}, // before ErrArg
		{"", -1, api.ErrArg}, {"", 1, api.ErrArg}, {"ab\n", 4, api.ErrArg}, {"ab", math.MaxInt, api.ErrArg}, {"ab", math.MinInt, api.ErrArg},
	} {
		if l, k, e := lex.Line(c.s, c.at); l != 0 || k != 0 || e != c.want {
			t.Errorf("Line of %.20q at %d: %d, %d, %d", c.s, c.at, l, k, e)
		}
	}
}

func TestAddress(t *testing.T) {
	for _, c := range []struct {
		n    int
		want string
	}{
		{0, "0.0.0.0"}, {1, "0.0.0.1"}, {255, "0.0.0.255"}, {256, "0.0.1.0"}, {167772161, "10.0.0.1"}, {0xc0a800fe, "192.168.0.254"}, {1 << 31, "128.0.0.0"}, {1<<32 - 1, "255.255.255.255"},
	} {
		if s, e := lex.Address(c.n); s != c.want || e != api.OK {
			t.Errorf("Address of %d: %q, %d", c.n, s, e)
		}
		lexes(t, c.want, at(0, num(c.n)))
	}
	for _, n := range []int{-1, 1 << 32, 1 << 48, math.MaxInt, math.MinInt} {
		if s, e := lex.Address(n); s != "" || e != api.ErrArg {
			t.Errorf("Address of %d: %q, %d", n, s, e)
		}
	}
}
