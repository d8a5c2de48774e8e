package lex

import (
	"strconv"
	"strings"

	"wireglass/api"
)

const (
	hexMark     = "0x" // what hexadecimal digits stand behind
	numberBits  = 48   // bits of the greatest number
	addressSize = 4    // numbers of an address
	partBits    = 8    // bits of each of them
)

// tokenOf returns the token at the begin of s, how many bytes it takes there, and whether it is one. s has at least a byte.
func tokenOf(s string) (api.Token, int, bool) {
	switch {
	case is(s[0], letter):
		return wordOf(s)
	case is(s[0], digit):
		return numberOf(s)
	case is(s[0], quote):
		return textOf(s)
	case is(s[0], sign):
		n := signSize(s)
		return api.Token{Kind: api.KSign, Text: s[:n]}, n, true
	}
	return api.Token{}, 0, false
}

// wordOf returns the word at the begin of s.
func wordOf(s string) (api.Token, int, bool) {
	n := wordSize(s)
	return api.Token{Kind: api.KWord, Text: s[:n]}, n, n <= api.MaxName
}

// wordSize returns how many bytes the word at the begin of s has, however long it is; 0 if there is none.
func wordSize(s string) int {
	if s == "" || !is(s[0], letter) {
		return 0
	}
	return dottedSize(s, wordByte)
}

// dottedSize returns how many bytes at the begin of s are of the classes of a set, or a point in front of such a byte. The first byte is of them.
func dottedSize(s string, set byte) int {
	n := run(s, set)
	for n+1 < len(s) && s[n] == '.' && is(s[n+1], set) {
		n += 1 + run(s[n+1:], set)
	}
	return n
}

// numberOf returns the number at the begin of s.
func numberOf(s string) (api.Token, int, bool) {
	if digits, ok := strings.CutPrefix(s, hexMark); ok {
		n := run(digits, hexDigit)
		v, ok := valueOf(digits[:n], 16, numberBits)
		return api.Token{Kind: api.KNum, N: v}, len(hexMark) + n, ok
	}
	n := dottedSize(s, digit)
	v, ok := decimal(s[:n])
	return api.Token{Kind: api.KNum, N: v}, n, ok
}

// decimal returns the number of digits, or of an address.
func decimal(s string) (int, bool) {
	parts := strings.Split(s, ".")
	if len(parts) == 1 {
		return valueOf(s, 10, numberBits)
	}
	if len(parts) != addressSize {
		return 0, false
	}
	out := 0
	for _, p := range parts {
		v, ok := valueOf(p, 10, partBits)
		if !ok {
			return 0, false
		}
		out = out<<partBits | v
	}
	return out, true
}

// valueOf returns the number that digits stand for, if there are digits and it has at most so many bits.
func valueOf(digits string, base, size int) (int, bool) {
	v, err := strconv.ParseUint(digits, base, size)
	if err != nil {
		return 0, false
	}
	return int(v), true
}

// textOf returns the text at the begin of s, where its quote is.
func textOf(s string) (api.Token, int, bool) {
	var out []byte
	at := 1
	for at < len(s) {
		if is(s[at], quote) {
			return api.Token{Kind: api.KStr, Text: string(out)}, at + 1, len(out) <= api.MaxText
		}
		c, n := byteOf(s[at:])
		if n == 0 {
			break
		}
		out = append(out, c)
		at += n
	}
	return api.Token{}, 0, false
}

// byteOf returns the byte of a text that is written at the begin of s, and how many bytes it takes there: 0 if it is wrong.
func byteOf(s string) (byte, int) {
	switch {
	case s[0] == '\\':
		return escaped(s)
	case s[0] == '\n' || !is(s[0], inSource):
		return 0, 0
	}
	return s[0], 1
}

// escaped does so for a byte that is written with a `\`.
func escaped(s string) (byte, int) {
	switch {
	case strings.HasPrefix(s, `\"`), strings.HasPrefix(s, `\\`):
		return s[1], 2
	case strings.HasPrefix(s, `\n`):
		return '\n', 2
	case strings.HasPrefix(s, `\x`) && len(s) >= 4:
		if v, ok := valueOf(s[2:4], 16, 8); ok {
			return byte(v), 4
		}
	}
	return 0, 0
}

// signSize returns how many bytes the sign at the begin of s has.
func signSize(s string) int {
	switch s[:min(2, len(s))] {
	case "<<", ">>", "==", "!=", "<=", ">=", "&&", "||", "..":
		return 2
	}
	return 1
}
