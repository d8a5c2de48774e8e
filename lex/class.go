package lex

// The classes of bytes. A byte is of one of them, or of none: then no source has it.
const (
	odd         = 1 << iota // no token begins with it
	blank                   // it is between tokens
	quote                   // it begins and ends a text
	sign                    // a sign begins with it
	digit                   // a number begins with it
	hexLetter               // a letter that is a hexadecimal digit, too
	otherLetter             // any other letter, and _
)

// Sets of classes.
const (
	letter   = hexLetter | otherLetter
	wordByte = letter | digit
	hexDigit = hexLetter | digit
	inSource = odd | blank | quote | sign | wordByte
)

// classes has the class of each byte, up to the last one that a source may have.
var classes = [127]byte{
	'\t': blank, '\n': blank,
	' ': blank, '!': sign, '"': quote, '#': sign, '$': odd, '%': sign, '&': sign, '\'': odd,
	'(': sign, ')': sign, '*': sign, '+': sign, ',': sign, '-': sign, '.': sign, '/': sign,
	'0': digit, '1': digit, '2': digit, '3': digit, '4': digit,
	'5': digit, '6': digit, '7': digit, '8': digit, '9': digit,
	':': sign, ';': sign, '<': sign, '=': sign, '>': sign, '?': sign, '@': sign,
	'A': hexLetter, 'B': hexLetter, 'C': hexLetter, 'D': hexLetter, 'E': hexLetter, 'F': hexLetter,
	'G': otherLetter, 'H': otherLetter, 'I': otherLetter, 'J': otherLetter, 'K': otherLetter,
	'L': otherLetter, 'M': otherLetter, 'N': otherLetter, 'O': otherLetter, 'P': otherLetter,
	'Q': otherLetter, 'R': otherLetter, 'S': otherLetter, 'T': otherLetter, 'U': otherLetter,
	'V': otherLetter, 'W': otherLetter, 'X': otherLetter, 'Y': otherLetter, 'Z': otherLetter,
	'[': sign, '\\': odd, ']': sign, '^': sign, '_': otherLetter, '`': odd,
	'a': hexLetter, 'b': hexLetter, 'c': hexLetter, 'd': hexLetter, 'e': hexLetter, 'f': hexLetter,
	'g': otherLetter, 'h': otherLetter, 'i': otherLetter, 'j': otherLetter, 'k': otherLetter,
	'l': otherLetter, 'm': otherLetter, 'n': otherLetter, 'o': otherLetter, 'p': otherLetter,
	'q': otherLetter, 'r': otherLetter, 's': otherLetter, 't': otherLetter, 'u': otherLetter,
	'v': otherLetter, 'w': otherLetter, 'x': otherLetter, 'y': otherLetter, 'z': otherLetter,
	'{': sign, '|': sign, '}': sign, '~': sign,
}

// is tells whether a byte is of a class of a set.
func is(c, set byte) bool {
	return int(c) < len(classes) && classes[c]&set != 0
}

// run returns how many bytes at the begin of s are of the classes of a set.
func run(s string, set byte) int {
	n := 0
	for n < len(s) && is(s[n], set) {
		n++
	}
	return n
}
