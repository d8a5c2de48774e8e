package lex_test

import (
	"math/big"
	"math/rand"
	"regexp"
	"strconv"
	"strings"
	"testing"

	"wireglass/api"
	"wireglass/lex"
)

// The tokens as the chapter says them, each as long as it goes.
var (
	blanks  = regexp.MustCompile(`^(?:[\t\n ]|//[\t -~]*(?:\n|$))+`)
	comment = regexp.MustCompile(`^//[\t -~]*`)
	words   = regexp.MustCompile(`^[A-Za-z_](?:[A-Za-z0-9_]|\.[A-Za-z0-9_])*`)
	hexes   = regexp.MustCompile(`^0x([0-9A-Fa-f]*)`)
	digits  = regexp.MustCompile(`^[0-9]+(?:\.[0-9]+)*`)
	texts   = regexp.MustCompile(`^"((?:[\t !#-\[\]-~]|\\["\\n]|\\x[0-9A-Fa-f]{2})*)"`)
	escapes = regexp.MustCompile(`\\(?:["\\n]|x..)`)
)

// plainLex is Lex, written for plainness alone.
func plainLex(s string) ([]api.Token, int, api.Errno) {
	if len(s) > api.MaxSource {
		return nil, 0, api.ErrLarge
	}
	var out []api.Token
	place := 0
	for {
		place += len(blanks.FindString(s[place:]))
		if c := comment.FindString(s[place:]); c != "" {
			return nil, place + len(c), api.ErrSyntax
		}
		if place == len(s) {
			break
		}
		t, size := plainToken(s[place:])
		if size == 0 {
			return nil, place, api.ErrSyntax
		}
		t.At = place
		out = append(out, t)
		place += size
	}
	if len(out) > api.MaxTokens {
		return nil, 0, api.ErrLarge
	}
	return out, len(out), api.OK
}

// plainToken returns the token at the begin of s, and how many bytes it has: 0 if it is none.
func plainToken(s string) (api.Token, int) {
	if w := words.FindString(s); w != "" {
		if len(w) > 16 {
			return api.Token{}, 0
		}
		return word(w), len(w)
	}
	if h := hexes.FindStringSubmatch(s); h != nil {
		return plainNumber(h[1], 16, 281474976710655, len(h[0]))
	}
	if d := digits.FindString(s); d != "" {
		parts := strings.Split(d, ".")
		if len(parts) == 1 {
			return plainNumber(d, 10, 281474976710655, len(d))
		}
		if len(parts) != 4 {
			return api.Token{}, 0
		}
		sum := 0
		for _, p := range parts {
			t, size := plainNumber(p, 10, 255, len(p))
			if size == 0 {
				return api.Token{}, 0
			}
			sum = sum*256 + t.N
		}
		return num(sum), len(d)
	}
	if x := texts.FindStringSubmatch(s); x != nil {
		text := plainText(x[1])
		if len(text) > 200 {
			return api.Token{}, 0
		}
		return str(text), len(x[0])
	}
	best := ""
	for _, x := range strings.Fields(signs) {
		if strings.HasPrefix(s, x) && len(x) > len(best) {
			best = x
		}
	}
	return sign(best), len(best)
}

func plainNumber(s string, base int, most int64, size int) (api.Token, int) {
	v, ok := new(big.Int).SetString(s, base)
	if !ok || v.Cmp(big.NewInt(most)) > 0 {
		return api.Token{}, 0
	}
	return num(int(v.Int64())), size
}

func plainText(s string) string {
	return escapes.ReplaceAllStringFunc(s, func(x string) string {
		switch x[1] {
		case 'n':
			return "\n"
		case 'x':
			v, _ := strconv.ParseInt(x[2:], 16, 32)
			return string([]byte{byte(v)})
		}
		return x[1:]
	})
}

// agree makes sure that Lex tells of a source what plainLex tells, and that the tokens are those of their Text.
func agree(t *testing.T, s string) {
	t.Helper()
	l, n, e := lex.Lex(s)
	wantL, wantN, wantE := plainLex(s)
	if !alike(l, wantL) || n != wantN || e != wantE {
		t.Fatalf("Lex of %q: %v, %d, %d; not %v, %d, %d", s, l, n, e, wantL, wantN, wantE)
	}
	if e != api.OK {
		return
	}
	text, e := lex.Text(l)
	if e == api.ErrLarge && len(s) > api.MaxSource/4 {
		return // a byte of a text may be written with four
	}
	again, _, e2 := lex.Lex(text)
	if e != api.OK || e2 != api.OK || !lex.Same(again, l) {
		t.Fatalf("Text of %v: %q, %d; then Lex: %v, %d", l, text, e, again, e2)
	}
	if twice, e := lex.Text(again); twice != text || e != api.OK {
		t.Fatalf("Text of Lex of %q: %q, %d", text, twice, e)
	}
}

func TestLexOfAllShortSources(t *testing.T) {
	for _, of := range []struct {
		bytes string
		size  int
	}{
		{"0x1.a_", 6}, {"\"\\nx09/\n \x00", 5}, {"/\n \x80a$", 6}, {"<=>!&|.+", 5}, {"2.56", 7}, {"a./\"0 ", 6},
	} {
		var all func(s string)
		all = func(s string) {
			agree(t, s)
			if len(s) == of.size {
				return
			}
			for i := range len(of.bytes) {
				all(s + of.bytes[i:i+1])
			}
		}
		all("")
	}
}

func TestLexOfMixedSources(t *testing.T) {
	random := rand.New(rand.NewSource(4))
	parts := []string{
		"a", "b.c", "_", ".", "..", "0", "255", "256", "0x", "0xfF", "1.2.3.4", "1.2.3", "281474976710655", "281474976710656", "\"", `\"`, `\\`, `\n`, `\x`, `\x0a`, `"a"`, `""`, `"\x00\xff"`,
		" ", "\n", "\t", "//", "/", "<", "=", "<<", "&&", "|", "{", "}", "@", "#", "abcdefghijklmnop", "u16", "proto", ";", ":",
	}
	rare := []string{"$", "'", "`", "\\", "\x00", "\r", "\x7f", "\x80", "\xff"}
	for range 100000 {
		var s strings.Builder
		for range random.Intn(12) {
			if random.Intn(40) == 0 {
				s.WriteString(rare[random.Intn(len(rare))])
			} else {
				s.WriteString(parts[random.Intn(len(parts))])
			}
		}
		agree(t, s.String())
	}
	for range 20000 {
		b := make([]byte, random.Intn(8))
		for i := range b {
			b[i] = byte(random.Intn(256))
		}
		agree(t, string(b))
		for i := range b {
			b[i] = byte(32 + random.Intn(95))
		}
		agree(t, string(b))
	}
}
