package bits

import (
	"bytes"
	"strconv"
	"strings"

	"wireglass/api"
)

const (
	maxDump   = 4 * api.MaxPacket // bytes of a dump
	lineBytes = 16                // bytes of a line of a dump
	charsAt   = 56                // where a line has its bytes as characters
	hexDigits = "0123456789abcdef"
)

// Hex returns the bytes in hexadecimal.
func Hex(b []byte) string {
	out := make([]byte, 0, 2*len(b))
	for _, x := range b {
		out = append(out, hexDigits[x>>4], hexDigits[x&15])
	}
	return string(out)
}

// Unhex returns the bytes of a text in hexadecimal.
func Unhex(s string) ([]byte, api.Errno) {
	if len(s)%2 != 0 {
		return nil, api.ErrSyntax
	}
	out := make([]byte, 0, len(s)/2)
	for i := 0; i < len(s); i += 2 {
		high, okHigh := digit(s[i])
		low, okLow := digit(s[i+1])
		if !okHigh || !okLow {
			return nil, api.ErrSyntax
		}
		out = append(out, high<<4|low)
	}
	return out, api.OK
}

// Dump returns the bytes as lines of places, hexadecimal and characters.
func Dump(b []byte) (string, api.Errno) {
	if len(b) > maxDump {
		return "", api.ErrLarge
	}
	var out strings.Builder
	for at := 0; at < len(b); at += lineBytes {
		out.Write(dumpLine(at, b[at:min(at+lineBytes, len(b))]))
	}
	return out.String(), api.OK
}

// Undump returns the bytes of a text that Dump has made.
func Undump(s string) ([]byte, api.Errno) {
	var out []byte
	for line := range strings.Lines(s) {
		b, ok := undumpLine(line)
		if !ok {
			return nil, api.ErrSyntax
		}
		out = append(out, b...)
	}
	// Places, blanks, characters, small letters and the count of bytes are right if Dump makes the same text again.
	if again, e := Dump(out); e != api.OK || again != s {
		return nil, api.ErrSyntax
	}
	return out, api.OK
}

// dumpLine returns the line of 1 to 16 bytes that are from the place at on.
func dumpLine(at int, b []byte) []byte {
	line := bytes.Repeat([]byte{' '}, charsAt)
	copy(line, strconv.Itoa(10000 + at)[1:]) // four digits, with zeros in front
	for i, x := range b {
		copy(line[column(i):], Hex(b[i:i+1]))
		line = append(line, character(x))
	}
	return append(line, '\n')
}

// undumpLine returns the bytes of a line, and whether it has such bytes; what else is in it may be anything.
func undumpLine(line string) ([]byte, bool) {
	n := len(line) - charsAt - 1 // each byte has one character at the end, before the line feed
	if n < 1 || n > lineBytes {
		return nil, false
	}
	var out []byte
	for i := range n {
		at := column(i)
		b, e := Unhex(line[at : at+2])
		if e != api.OK {
			return nil, false
		}
		out = append(out, b...)
	}
	return out, true
}

// column returns where the byte i of a line has its hexadecimal digits.
func column(i int) int {
	return 6 + 3*i + i/8
}

// character returns the character that stands for a byte.
func character(x byte) byte {
	if x < 32 || x > 126 {
		return '.'
	}
	return x
}

// digit returns what a hexadecimal digit stands for, and whether it is one.
func digit(c byte) (byte, bool) {
	switch {
	case '0' <= c && c <= '9':
		return c - '0', true
	case 'a' <= c && c <= 'f':
		return c - 'a' + 10, true
	case 'A' <= c && c <= 'F':
		return c - 'A' + 10, true
	}
	return 0, false
}
