package lex

import (
	"strconv"
	"strings"

	"hansard/api"
)

// place is the index of a byte at which something begins that is not as it must be. A panic carries it to Lex.
type place int

// scanner scans what begins with a byte of one class: length says how much of the rest of the source that is, and add adds it to the tokens, if it is one.
type scanner struct {
	length func(rest string) int
	add    func(s *source, text string)
}

// scanners returns the scanner of each class, indexed by the class.
func scanners() [classCount]scanner {
	return [classCount]scanner{
		other:      {length: oneByte, add: (*source).refuse},
		space:      {length: oneByte, add: (*source).pass},
		letter:     {length: nameLength, add: (*source).addName},
		digit:      {length: numberLength, add: (*source).addNumber},
		underscore: {length: oneByte, add: (*source).refuse},
		sign:       {length: oneByte, add: (*source).addSign},
		slash:      {length: slashLength, add: (*source).addSlash},
	}
}

// source is a source of which the bytes before at are scanned; these have the tokens.
type source struct {
	text   string
	at     int
	tokens []api.Token
}

// scanWhole returns the tokens of a source. It panics with the place of what is not as it must be.
func scanWhole(text string) []api.Token {
	s, all := source{text: text}, scanners()
	for s.at < len(text) {
		rest := text[s.at:]
		scan := all[classOf(rest[0])]
		n := scan.length(rest)
		scan.add(&s, rest[:n])
		s.at += n
	}
	return s.tokens
}

func (s *source) need(ok bool) {
	if !ok {
		panic(place(s.at))
	}
}

func (s *source) push(kind int, text string, n int) {
	s.tokens = append(s.tokens, api.Token{Kind: kind, Text: text, N: n, At: s.at})
}

func (s *source) refuse(text string) { s.need(false) }

func (s *source) pass(text string) {}

func (s *source) addName(text string) {
	s.need(Name(text))
	s.push(api.NameT, text, 0)
}

func (s *source) addNumber(text string) {
	n, err := strconv.Atoi(text)
	s.need(err == nil && n <= api.MaxNum && (len(text) == 1 || text[0] != '0'))
	s.push(api.NumberT, "", n)
}

func (s *source) addSign(text string) { s.push(api.SignT, text, 0) }

// addSlash passes over a comment, which is longer than the sign.
func (s *source) addSlash(text string) {
	if len(text) == 1 {
		s.addSign(text)
	}
}

func oneByte(rest string) int { return 1 }

func nameLength(rest string) int { return lengthOf(rest, goesOnWithName) }

func numberLength(rest string) int { return lengthOf(rest, isDigit) }

// slashLength ends a comment before the line feed, which is white space.
func slashLength(rest string) int {
	if !strings.HasPrefix(rest, "//") {
		return 1
	}
	if end := strings.IndexByte(rest, '\n'); end >= 0 {
		return end
	}
	return len(rest)
}

// lengthOf returns how many bytes at the beginning of rest belong to classes that go on.
func lengthOf(rest string, goesOn func(c class) bool) int {
	for i := range len(rest) {
		if !goesOn(classOf(rest[i])) {
			return i
		}
	}
	return len(rest)
}

func goesOnWithName(c class) bool { return c == letter || c == digit || c == underscore }

func isDigit(c class) bool { return c == digit }
