package syntax_test

import (
	"regexp"
	"strconv"
	"strings"
)

// grammar is the grammar of programs, for the recognizer below. Tokens are in quotes, but NAME; N0 is the number 0, N another number without an s, S one with an s; a list ends with a dot. NEVER is no token: nothing that follows the = of an array is right.
const grammar = `
program = funcs | global program1 | .
program1 = funcs | global program1 | .
funcs = func | func funcs .
global = "global" NAME ":" scalar ";" | "global" NAME ":" array ";" | "global" NAME ":" array "=" NEVER ";"
       | "global" NAME ":" "int" "=" num ";" | "global" NAME ":" "int" "=" "-" N ";"
       | "global" NAME ":" "small" "=" num ";" | "global" NAME ":" "small" "=" "-" N ";" | "global" NAME ":" "small" "=" S ";"
       | "global" NAME ":" "bool" "=" "true" ";" | "global" NAME ":" "bool" "=" "false" ";" .
num = N0 | N .
func = "func" NAME "(" ")" result block | "func" NAME "(" params ")" result block .
result = ":" scalar | .
params = NAME ":" type | NAME ":" type "," params .
type = scalar | array .
array = scalar "[" num "]" .
scalar = "int" | "small" | "bool" .
block = "{" stms "}" .
stms = stm stms | .
stm = "let" NAME ":" type ";" | "let" NAME ":" type "=" exp ";" | NAME "=" exp ";" | NAME "[" exp "]" "=" exp ";" | call ";"
    | "print" exp ";" | "trap" ";" | "break" ";" | "continue" ";" | "return" ";" | "return" exp ";"
    | "if" exp block | "if" exp block "else" block | "while" exp "upto" num block | "for" NAME "in" exp ".." exp block .
exp = exp "||" and | and .
and = and "&&" cmp | cmp .
cmp = or | or "==" or | or "!=" or | or "<" or | or "<=" or | or ">" or | or ">=" or .
or = or "|" bits | or "^" bits | bits .
bits = bits "&" shift | shift .
shift = shift "<<" sum | shift ">>" sum | sum .
sum = sum "+" product | sum "-" product | product .
product = product "*" operand | product "/" operand | product "%" operand | operand .
operand = "-" operand | "!" operand | "~" operand | num | S | "true" | "false" | NAME | NAME "[" exp "]" | call
        | "int" "(" exp ")" | "small" "(" exp ")" | "(" exp ")" .
call = NAME "(" ")" | NAME "(" exps ")" .
exps = exp | exp "," exps .
`

// rules of the grammar: what stands for a name, as lists of names and of tokens.
func rules() map[string][][]string {
	all := map[string][][]string{}
	for _, rule := range strings.Split(strings.TrimSpace(grammar), " .\n") {
		left, right, _ := strings.Cut(strings.TrimSuffix(rule, " ."), " =")
		right = strings.Join(strings.Fields(right), " ")
		for _, way := range strings.Split(" "+right+" ", " | ") {
			all[left] = append(all[left], strings.Fields(way))
		}
	}
	return all
}

var (
	blanks   = regexp.MustCompile(`^(?:[ \t\n\r]|//[^\n]*)*`)
	words    = regexp.MustCompile(`^[A-Za-z][A-Za-z0-9_]*`)
	numbers  = regexp.MustCompile(`^[0-9][A-Za-z0-9_]*`)
	right    = regexp.MustCompile(`^(?:0|[1-9][0-9]*)s?$`)
	signs    = regexp.MustCompile(`^(?:==|!=|<=|<<|>=|>>|&&|\|\||\.\.|[-(){}\[\],;:=<>&|^!~+*/%])`)
	keywords = regexp.MustCompile(`^(?:global|func|let|if|else|while|upto|for|in|break|continue|return|print|trap|int|small|bool|true|false)$`)
)

// tokenAt returns the first token of a text as the grammar names it, "" if none begins there, and where it begins and ends.
func tokenAt(text string, at int) (string, int, int) {
	at += len(blanks.FindString(text[at:]))
	rest := text[at:]
	if w := words.FindString(rest); w != "" {
		if keywords.MatchString(w) {
			return strconv.Quote(w), at, at + len(w)
		}
		return "NAME", at, at + len(w)
	}
	if n := numbers.FindString(rest); n != "" {
		return numberName(n), at, at + len(n)
	}
	if s := signs.FindString(rest); s != "" {
		return strconv.Quote(s), at, at + len(s)
	}
	return "", at, at
}

func numberName(n string) string {
	v, err := strconv.ParseUint(strings.TrimSuffix(n, "s"), 10, 63)
	switch {
	case err != nil || !right.MatchString(n):
		return ""
	case strings.HasSuffix(n, "s") && v > 255:
		return ""
	case strings.HasSuffix(n, "s"):
		return "S"
	case v == 0:
		return "N0"
	}
	return "N"
}

// item is a way of a rule of which a part has been read, from the token start on.
type item struct {
	left             string
	way, read, start int
}

// recognizer goes through all ways to read a text at once.
type recognizer struct {
	rules map[string][][]string
	sets  []map[item]bool
}

// wrongPlace returns the place of the first token with which no program goes on, or that is none; -1 if the text is a program.
func (r *recognizer) wrongPlace(text string) int {
	r.sets = []map[item]bool{{}}
	for way := range r.rules["program"] {
		r.sets[0][item{"program", way, 0, 0}] = true
	}
	r.grow()
	for at := 0; ; {
		token, from, to := tokenAt(text, at)
		if from == len(text) {
			if r.isDone() {
				return -1
			}
			return from
		}
		next := map[item]bool{}
		for i := range r.sets[len(r.sets)-1] {
			if token != "" && r.after(i) == token {
				i.read++
				next[i] = true
			}
		}
		if len(next) == 0 {
			return from
		}
		r.sets = append(r.sets, next)
		r.grow()
		at = to
	}
}

// after returns what stands after what was read, "" at the end.
func (r *recognizer) after(i item) string {
	if way := r.rules[i.left][i.way]; i.read < len(way) {
		return way[i.read]
	}
	return ""
}

func (r *recognizer) isDone() bool {
	for i := range r.sets[len(r.sets)-1] {
		if i.left == "program" && i.start == 0 && r.after(i) == "" {
			return true
		}
	}
	return false
}

// grow adds to the last set what follows from its items without a token.
func (r *recognizer) grow() {
	here := len(r.sets) - 1
	set := r.sets[here]
	for n := -1; n != len(set); {
		n = len(set)
		var more []item
		for i := range set {
			word := r.after(i)
			if word == "" {
				for j := range r.sets[i.start] {
					if r.after(j) == i.left {
						j.read++
						more = append(more, j)
					}
				}
				continue
			}
			for way := range r.rules[word] {
				more = append(more, item{word, way, 0, here})
			}
		}
		for _, i := range more {
			set[i] = true
		}
	}
}
