package syntax

import (
	"strconv"
	"strings"

	"cupel/api"
)

// Kinds of tokens.
const (
	tokenEnd    = iota // of the text
	tokenNone          // no token begins here
	tokenFixed         // a keyword or a sign, told by its text
	tokenName          // a word that is no keyword, however long
	tokenNumber        // without an s
	tokenSmall         // with an s
)

type token struct {
	kind  int
	text  string
	value int64
	at    int
}

// scan returns the first token from a place on.
func scan(text string, at int) token {
	at = skipBlanks(text, at)
	if at == len(text) {
		return token{kind: tokenEnd, at: at}
	}
	switch {
	case isLetter(text[at]):
		return scanWord(text, at)
	case isDigit(text[at]):
		return scanNumber(text, at)
	}
	if sign := signOf(text[at:]); sign != "" {
		return token{kind: tokenFixed, text: sign, at: at}
	}
	return token{kind: tokenNone, at: at}
}

func skipBlanks(text string, at int) int {
	for at < len(text) {
		switch {
		case strings.IndexByte(" \t\n\r", text[at]) >= 0:
			at++
		case strings.HasPrefix(text[at:], "//"):
			line := strings.IndexByte(text[at:], '\n')
			if line < 0 {
				return len(text)
			}
			at += line
		default:
			return at
		}
	}
	return at
}

func scanWord(text string, at int) token {
	to := at
	for to < len(text) && inWord(text[to]) {
		to++
	}
	t := token{kind: tokenName, text: text[at:to], at: at}
	if isKeyword(t.text) {
		t.kind = tokenFixed
	}
	return t
}

func scanNumber(text string, at int) token {
	to := at
	for to < len(text) && isDigit(text[to]) {
		to++
	}
	digits := text[at:to]
	value, err := strconv.ParseInt(digits, 10, 64)
	t := token{kind: tokenNumber, value: value}
	if to < len(text) && text[to] == 's' {
		t.kind = tokenSmall
		to++
	}
	superfluous := len(digits) > 1 && digits[0] == '0'
	goesOn := to < len(text) && inWord(text[to])
	if err != nil || superfluous || goesOn || t.kind == tokenSmall && value > 255 {
		return token{kind: tokenNone, at: at}
	}
	t.text, t.at = text[at:to], at
	return t
}

// signOf returns the longest sign with which a text begins.
func signOf(text string) string {
	if len(text) >= 2 {
		switch text[:2] {
		case "==", "!=", "<=", "<<", ">=", ">>", "&&", "||", "..":
			return text[:2]
		}
	}
	if strings.IndexByte("(){}[],;:=<>&|^!~+-*/%", text[0]) >= 0 {
		return text[:1]
	}
	return ""
}

func isLetter(c byte) bool { return 'a' <= c && c <= 'z' || 'A' <= c && c <= 'Z' }

func isDigit(c byte) bool { return '0' <= c && c <= '9' }

func inWord(c byte) bool { return isLetter(c) || isDigit(c) || c == '_' }

func isKeyword(word string) bool {
	switch word {
	case "global", "func", "let", "if", "else", "while", "upto", "for", "in", "break", "continue", "return", "print", "trap", "int", "small", "bool", "true", "false":
		return true
	}
	return false
}

func isName(word string) bool {
	if word == "" || len(word) > api.MaxName || !isLetter(word[0]) || isKeyword(word) {
		return false
	}
	for i := range len(word) {
		if !inWord(word[i]) {
			return false
		}
	}
	return true
}
