// Package texts has what the texts of modules and of images have in common: tokens, how they are read one by one, and the words of operations.
package texts

import (
	"strconv"
	"strings"
)

// Kinds of tokens.
const (
	End     = iota // of the text
	None           // no token begins here
	Word           // however long
	Integer        // in the range of int64
	Sign
)

// Digits and SmallLetters are bytes of which words may consist.
const (
	Digits       = "0123456789"
	SmallLetters = "abcdefghijklmnopqrstuvwxyz"
)

// Token has no Text if it is the end, or none.
type Token struct {
	Kind  int
	Text  string
	Value int64
	At    int
}

// Tokens says which words and signs a language has; integers, blanks and remarks are the same in all.
type Tokens struct {
	First, Next string // bytes with which words begin, and with which they go on
	Signs       string
}

// Scan returns the first token from a place on.
func (l Tokens) Scan(text string, at int) Token {
	at = skipBlanks(text, at)
	switch {
	case at == len(text):
		return Token{Kind: End, At: at}
	case has(l.First, text[at]):
		to := skip(l.Next, text, at+1)
		return Token{Kind: Word, Text: text[at:to], At: at}
	case has(Digits, text[at]) || text[at] == '-':
		return scanInteger(text, at)
	case has(l.Signs, text[at]):
		return Token{Kind: Sign, Text: text[at : at+1], At: at}
	}
	return Token{Kind: None, At: at}
}

func has(bytes string, c byte) bool { return strings.IndexByte(bytes, c) >= 0 }

// skip returns the first place from which on none of some bytes stands.
func skip(bytes, text string, at int) int {
	for at < len(text) && has(bytes, text[at]) {
		at++
	}
	return at
}

func skipBlanks(text string, at int) int {
	for {
		at = skip(" \t\r\n", text, at)
		if at == len(text) || text[at] != '#' {
			return at
		}
		line := strings.IndexByte(text[at:], '\n')
		if line < 0 {
			return len(text)
		}
		at += line
	}
}

func scanInteger(text string, at int) Token {
	to := skip(Digits, text, at+1) // after the - or the first digit
	value, err := strconv.ParseInt(text[at:to], 10, 64)
	if err != nil || strconv.FormatInt(value, 10) != text[at:to] { // superfluous zeros are not written back
		return Token{Kind: None, At: at}
	}
	return Token{Kind: Integer, Text: text[at:to], Value: value, At: at}
}

// Number returns the number of a word that consists of a letter and a number from 0 to most.
func (t Token) Number(letter byte, most int) (int, bool) {
	if t.Kind != Word || t.Text[0] != letter {
		return 0, false
	}
	n, err := strconv.Atoi(t.Text[1:])
	if err != nil || n < 0 || n > most || strconv.Itoa(n) != t.Text[1:] {
		return 0, false
	}
	return n, true
}
