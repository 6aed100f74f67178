package ir

import (
	"strconv"
	"strings"
)

// Kinds of tokens.
const (
	tokenEnd     = iota // of the text
	tokenNone           // no token begins here
	tokenWord           // however long
	tokenInteger        // in the range of int64
	tokenSign
)

// token has no text if it is the end, or none.
type token struct {
	kind  int
	text  string
	value int64
	at    int
}

// scan returns the first token from a place on.
func scan(text string, at int) token {
	at = skipBlanks(text, at)
	switch {
	case at == len(text):
		return token{kind: tokenEnd, at: at}
	case isLetter(text[at]):
		return scanWord(text, at)
	case isDigit(text[at]) || text[at] == '-':
		return scanInteger(text, at)
	case strings.IndexByte("=,;:()[]{}", text[at]) >= 0:
		return token{kind: tokenSign, text: text[at : at+1], at: at}
	}
	return token{kind: tokenNone, at: at}
}

func skipBlanks(text string, at int) int {
	for at < len(text) {
		switch text[at] {
		case ' ', '\t', '\r', '\n':
			at++
		case '#':
			line := strings.IndexByte(text[at:], '\n')
			if line < 0 {
				return len(text)
			}
			at += line
		default:
			return at
		}
	}
	return at
}

func scanWord(text string, at int) token {
	to := at
	for to < len(text) && inWord(text[to]) {
		to++
	}
	return token{kind: tokenWord, text: text[at:to], at: at}
}

func scanInteger(text string, at int) token {
	to := at + 1 // after the - or the first digit
	for to < len(text) && isDigit(text[to]) {
		to++
	}
	value, err := strconv.ParseInt(text[at:to], 10, 64)
	if err != nil || strconv.FormatInt(value, 10) != text[at:to] { // superfluous zeros are not written back
		return token{kind: tokenNone, at: at}
	}
	return token{kind: tokenInteger, text: text[at:to], value: value, at: at}
}

func isLetter(c byte) bool { return 'a' <= c && c <= 'z' || 'A' <= c && c <= 'Z' }

func isDigit(c byte) bool { return '0' <= c && c <= '9' }

func inWord(c byte) bool { return isLetter(c) || isDigit(c) || c == '_' }
