package lex

// A class says what begins at a byte.
type class uint8

const (
	strange class = iota
	white
	sign
	digit
	letter
	underscore // it continues a name, but begins nothing
)

// classes are those of the bytes below 128; all the others are strange.
var classes = [128]class{
	'\t': white, '\n': white, '\r': white, ' ': white,
	'{': sign, '}': sign, '(': sign, ')': sign, ';': sign, ',': sign, '=': sign, ':': sign,
	'.': sign, '<': sign, '>': sign, '!': sign, '+': sign, '-': sign, '*': sign, '/': sign,
	'0': digit, '1': digit, '2': digit, '3': digit, '4': digit,
	'5': digit, '6': digit, '7': digit, '8': digit, '9': digit,
	'A': letter, 'B': letter, 'C': letter, 'D': letter, 'E': letter, 'F': letter, 'G': letter,
	'H': letter, 'I': letter, 'J': letter, 'K': letter, 'L': letter, 'M': letter, 'N': letter,
	'O': letter, 'P': letter, 'Q': letter, 'R': letter, 'S': letter, 'T': letter, 'U': letter,
	'V': letter, 'W': letter, 'X': letter, 'Y': letter, 'Z': letter,
	'a': letter, 'b': letter, 'c': letter, 'd': letter, 'e': letter, 'f': letter, 'g': letter,
	'h': letter, 'i': letter, 'j': letter, 'k': letter, 'l': letter, 'm': letter, 'n': letter,
	'o': letter, 'p': letter, 'q': letter, 'r': letter, 's': letter, 't': letter, 'u': letter,
	'v': letter, 'w': letter, 'x': letter, 'y': letter, 'z': letter,
	'_': underscore,
}

func classOf(b byte) class {
	if int(b) >= len(classes) {
		return strange
	}
	return classes[b]
}

func isSign(b byte) bool { return classOf(b) == sign }

func isDigit(b byte) bool { return classOf(b) == digit }

func isLetter(b byte) bool { return classOf(b) == letter }

func inName(b byte) bool { return isLetter(b) || isDigit(b) || classOf(b) == underscore }

// beginning returns the bytes at the beginning of s up to the first one that does not belong.
func beginning(s string, belongs func(b byte) bool) string {
	for i := range len(s) {
		if !belongs(s[i]) {
			return s[:i]
		}
	}
	return s
}
