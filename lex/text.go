package lex

import (
	"slices"
	"strconv"
	"strings"

	"wireglass/api"
)

const hexDigits = "0123456789abcdef"

// Text returns a source that has the tokens.
func Text(l []api.Token) (string, api.Errno) {
	var out strings.Builder
	for i, t := range l {
		if i > 0 {
			out.WriteByte(' ')
		}
		out.WriteString(written(t))
	}
	s := out.String()
	again, _, e := Lex(s)
	if e != api.OK {
		return "", e
	}
	if !Same(again, l) {
		return "", api.ErrArg
	}
	return s, api.OK
}

// written returns how a token is written, also one that no source has: Lex then refuses it, or makes another one of it.
func written(t api.Token) string {
	switch t.Kind {
	case api.KNum:
		return Number(t.N)
	case api.KStr:
		return quoted(t.Text)
	}
	return t.Text
}

// Quote returns a text between quotes.
func Quote(s string) (string, api.Errno) {
	if len(s) > api.MaxText {
		return "", api.ErrLarge
	}
	return quoted(s), api.OK
}

// quoted returns a text of any length between quotes.
func quoted(s string) string {
	out := []byte{'"'}
	for i := range len(s) {
		c := s[i]
		switch {
		case c == '"' || c == '\\':
			out = append(out, '\\', c)
		case c == '\n':
			out = append(out, `\n`...)
		case c < ' ' || c > '~':
			out = append(out, '\\', 'x', hexDigits[c>>4], hexDigits[c&15])
		default:
			out = append(out, c)
		}
	}
	return string(append(out, '"'))
}

// Number returns a number in decimal digits.
func Number(n int) string {
	return strconv.Itoa(n)
}

// IsWord tells whether a text is a word.
func IsWord(s string) bool {
	return s != "" && len(s) <= api.MaxName && wordSize(s) == len(s)
}

// Same tells whether tokens are the same, wherever they stand.
func Same(a, b []api.Token) bool {
	return slices.EqualFunc(a, b, func(x, y api.Token) bool {
		return x.Kind == y.Kind && x.N == y.N && x.Text == y.Text
	})
}

// Line returns the line and the column of a place.
func Line(s string, at int) (int, int, api.Errno) {
	if len(s) > api.MaxSource {
		return 0, 0, api.ErrLarge
	}
	if at < 0 || at > len(s) {
		return 0, 0, api.ErrArg
	}
	before := s[:at]
	line := 1 + strings.Count(before, "\n")
	column := at - strings.LastIndexByte(before, '\n') // without a line feed, -1 counts from 1 on
	return line, column, api.OK
}

// Address returns an address as four numbers.
func Address(n int) (string, api.Errno) {
	if n < 0 || n >= 1<<(addressSize*partBits) {
		return "", api.ErrArg
	}
	parts := make([]string, addressSize)
	for i := range parts {
		behind := addressSize - 1 - i
		parts[i] = Number(n >> (behind * partBits) & (1<<partBits - 1))
	}
	return strings.Join(parts, "."), api.OK
}
