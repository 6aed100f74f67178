package texts_test

import (
	"math"
	"strings"
	"testing"

	"cupel/api"
	"cupel/texts"
)

// tokens has words of small letters, in which dots may follow.
var tokens = texts.Tokens{First: texts.SmallLetters, Next: texts.SmallLetters + ".", Signs: "(;-"}

// Which token begins at a place.
func TestScan(t *testing.T) {
	for text, want := range map[string]texts.Token{
		"":                      {Kind: texts.End},
		" \t\r\n":               {Kind: texts.End, At: 4},
		"# ab":                  {Kind: texts.End, At: 4},
		"# ab\n#":               {Kind: texts.End, At: 6},
		" # a\n\n##\n b":        {Kind: texts.Word, Text: "b", At: 10},
		"ab.c(":                 {Kind: texts.Word, Text: "ab.c"},
		"abC":                   {Kind: texts.Word, Text: "ab"},
		"ab7":                   {Kind: texts.Word, Text: "ab"},
		".":                     {Kind: texts.None},
		" A":                    {Kind: texts.None, At: 1},
		"\xe9":                  {Kind: texts.None},
		"\v":                    {Kind: texts.None},
		"0":                     {Kind: texts.Integer, Text: "0"},
		"-7a":                   {Kind: texts.Integer, Text: "-7", Value: -7},
		"12-3":                  {Kind: texts.Integer, Text: "12", Value: 12},
		"9223372036854775807":   {Kind: texts.Integer, Text: "9223372036854775807", Value: math.MaxInt64},
		"-9223372036854775808,": {Kind: texts.Integer, Text: "-9223372036854775808", Value: math.MinInt64},
		"9223372036854775808":   {Kind: texts.None},
		"-9223372036854775809":  {Kind: texts.None},
		"00":                    {Kind: texts.None},
		"-0":                    {Kind: texts.None},
		"-01":                   {Kind: texts.None},
		"-":                     {Kind: texts.None},
		"- 1":                   {Kind: texts.None},
		"((":                    {Kind: texts.Sign, Text: "("},
		" ;":                    {Kind: texts.Sign, Text: ";", At: 1},
		")":                     {Kind: texts.None},
	} {
		if got := tokens.Scan(text, 0); got != want {
			t.Errorf("Scan(%q): %+v, want %+v", text, got, want)
		}
		if got := tokens.Scan("x;"+text, 2); got.At != want.At+2 {
			t.Errorf("Scan(%q): at %d", "x;"+text, got.At)
		}
	}
}

// Words of a letter and a number.
func TestNumber(t *testing.T) {
	for word, want := range map[string]int{"r0": 0, "r7": 7, "r12": 12, "r13": -1, "r": -1, "r00": -1, "r01": -1, "s1": -1, "r1x": -1, "r+1": -1, "r-1": -1, "r18446744073709551617": -1} {
		n, ok := texts.Token{Kind: texts.Word, Text: word}.Number('r', 12)
		if ok != (want >= 0) || ok && n != want || !ok && n != 0 {
			t.Errorf("%q: %d, %t", word, n, ok)
		}
	}
	for _, kind := range []int{texts.End, texts.None, texts.Integer, texts.Sign} {
		if _, ok := (texts.Token{Kind: kind}).Number('r', 12); ok {
			t.Errorf("a token of the kind %d", kind)
		}
	}
}

// A reader stays at the token that is not right.
func TestReader(t *testing.T) {
	l := texts.Tokens{First: texts.SmallLetters, Next: texts.SmallLetters + texts.Digits, Signs: ";"}
	for text, place := range map[string]int{
		"set r3 -4;":   -1,
		" set r3 -4; ": -1,
		"put r3 -4;":   0,
		"set r4 -4;":   4,
		"set 3 -4;":    4,
		"set r3 -6;":   7,
		"set r3 1;":    7,
		"set r3 r3;":   7,
		"set r3 0;":    -1,
		"set r3 -5;":   -1,
		"set r3 0":     8,
		"set r3 0 ":    9,
		"set r3 0;;":   9,
		"":             0,
	} {
		r := l.Reader(text)
		right := r.Reads(func() {
			r.Expect("set")
			r.Numbered('r', 3)
			r.Integer(-5, 0)
			r.Require(!r.Accept("never"))
			r.Expect(";")
			r.ExpectEnd()
		})
		if right != (place < 0) || !right && r.Now.At != place {
			t.Errorf("%q: %t at %d, want %d", text, right, r.Now.At, place)
		}
	}
}

// The operations have their words.
func TestOperations(t *testing.T) {
	words := strings.Fields("add sub mul div rem and or xor shl shr eq ne lt le")
	for i, word := range words {
		if kind := api.IbAdd + i; !texts.IsOperation(kind) || texts.Operation(kind) != word {
			t.Errorf("%d: %q, want %q", kind, texts.Operation(kind), word)
		}
	}
	for _, kind := range []int{math.MinInt, -1, 0, api.IbLe + 1, math.MaxInt} {
		if texts.IsOperation(kind) {
			t.Errorf("there is an operation %d", kind)
		}
	}
}
