package lex

// class says what a byte can begin, and what it can go on with.
type class uint8

const (
	other      class = iota // stands in comments only
	space                   // stands between tokens
	letter                  // begins a name
	digit                   // begins a number, and goes on with a name
	underscore              // goes on with a name, but begins nothing
	sign                    // is a token
	slash                   // is a token, too, but begins a comment before another one
	classCount
)

// classes are the classes of the bytes of ASCII, which are indexed by them. All bytes behind these are other ones.
var classes = [128]class{
	' ': space, '\t': space, '\n': space, '\r': space,
	'A': letter, 'B': letter, 'C': letter, 'D': letter, 'E': letter, 'F': letter, 'G': letter, 'H': letter, 'I': letter,
	'J': letter, 'K': letter, 'L': letter, 'M': letter, 'N': letter, 'O': letter, 'P': letter, 'Q': letter, 'R': letter,
	'S': letter, 'T': letter, 'U': letter, 'V': letter, 'W': letter, 'X': letter, 'Y': letter, 'Z': letter,
	'a': letter, 'b': letter, 'c': letter, 'd': letter, 'e': letter, 'f': letter, 'g': letter, 'h': letter, 'i': letter,
	'j': letter, 'k': letter, 'l': letter, 'm': letter, 'n': letter, 'o': letter, 'p': letter, 'q': letter, 'r': letter,
	's': letter, 't': letter, 'u': letter, 'v': letter, 'w': letter, 'x': letter, 'y': letter, 'z': letter,
	'0': digit, '1': digit, '2': digit, '3': digit, '4': digit, '5': digit, '6': digit, '7': digit, '8': digit, '9': digit,
	'_': underscore,
	'{': sign, '}': sign, '(': sign, ')': sign, ';': sign, ',': sign, '=': sign, ':': sign,
	'.': sign, '<': sign, '>': sign, '!': sign, '+': sign, '-': sign, '*': sign,
	'/': slash,
}

func classOf(b byte) class {
	if b >= 128 {
		return other
	}
	return classes[b]
}
