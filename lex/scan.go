package lex

import (
	"strings"

	"signatory/api"
)

// A place is the index of the byte at which a wrong token begins: readers panic
// with it, and Lex recovers.
type place int

// A scanner holds a source, how far it is read, the tokens so far, and for each
// class the function that reads what begins at a byte of this class.
type scanner struct {
	src     string
	at      int
	tokens  []api.Token
	readers [underscore + 1]func(s *scanner)
}

func newScanner(src string) *scanner {
	return &scanner{
		src: src,
		readers: [underscore + 1]func(*scanner){
			strange:    refuse,
			white:      passWhite,
			sign:       readSign,
			digit:      readNumber,
			letter:     readName,
			underscore: refuse,
		},
	}
}

// readAll comes to an end, as every reader takes at least one byte, or panics.
func (s *scanner) readAll() {
	for s.at < len(s.src) {
		s.readers[classOf(s.src[s.at])](s)
	}
}

func (s *scanner) rest() string { return s.src[s.at:] }

// add enters a token that begins here and has the given number of bytes.
func (s *scanner) add(t api.Token, size int) {
	t.At = s.at
	s.tokens = append(s.tokens, t)
	s.at += size
}

func refuse(s *scanner) { panic(place(s.at)) }

func passWhite(s *scanner) { s.at++ }

func readSign(s *scanner) {
	rest := s.rest()
	if strings.HasPrefix(rest, "//") {
		s.at += len(beginning(rest, inLine))
		return
	}
	s.add(api.Token{Kind: api.SignT, Text: rest[:1]}, 1)
}

func inLine(b byte) bool { return b != '\n' }

func readNumber(s *scanner) {
	digits := beginning(s.rest(), isDigit)
	n, ok := number(digits)
	if !ok {
		refuse(s)
	}
	s.add(api.Token{Kind: api.NumberT, N: n}, len(digits))
}

// number stops as soon as the number is too great, so that no digits overflow an int.
func number(digits string) (n int, ok bool) {
	if len(digits) > 1 && digits[0] == '0' {
		return 0, false
	}
	for i := range len(digits) {
		n = 10*n + int(digits[i]-'0')
		if n > api.MaxNum {
			return 0, false
		}
	}
	return n, true
}

func readName(s *scanner) {
	name := beginning(s.rest(), inName)
	if !Name(name) {
		refuse(s)
	}
	s.add(api.Token{Kind: api.NameT, Text: name}, len(name))
}
