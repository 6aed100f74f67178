package ir_test

import (
	"regexp"
	"strconv"
	"strings"
	"testing"

	"cupel/api"
	"cupel/ir"
)

// grammar is the grammar of modules, for the recognizer below; a list ends with a dot. HEAD is a bN with the number of the next block. Functions with a result have rules of their own for what ends with a return.
const grammar = `
module = "cell" NAME "=" INTEGER ";" module | arrays .
arrays = "array" NAME "[" N "]" small ";" arrays | "main" NAME ";" funcs .
small = "small" | .
funcs = func funcs | .
func = "func" NAME "params" N "regs" N "{" decls blocks "}" | "func" NAME "params" N "regs" N "result" "{" decls rblocks "}" .
decls = decl decls | .
decl = "local" "[" N "]" small ";" | "param" "[" N "]" small ";" | "global" NAME ";" .
blocks = HEAD ":" instrs end blocks | HEAD ":" instrs "return" ";" blocks | .
rblocks = HEAD ":" instrs end rblocks | HEAD ":" instrs "return" opd ";" rblocks | .
instrs = instr ";" instrs | .
instr = rN "=" value | "check" opd "," opd | "store" aN "[" opd "]" "=" opd | "put" cN "=" opd | "print" opd | call .
value = opd | binary opd "," opd | "load" aN "[" opd "]" | "get" cN | call | "phi" | "phi" entries .
entries = bN ":" opd | bN ":" opd "," entries .
binary = "add" | "sub" | "mul" | "div" | "rem" | "and" | "or" | "xor" | "shl" | "shr" | "eq" | "ne" | "lt" | "le" .
call = "call" NAME "(" ")" | "call" NAME "(" opds ")" | "call" NAME "(" ";" given ")" | "call" NAME "(" opds ";" given ")" .
opds = opd | opd "," opds .
given = aN | aN "," given .
end = "jump" bN ";" | "branch" opd "," bN "," bN ";" | "trap" ";" .
opd = rN | INTEGER .
`

// rules of the grammar: what stands for a name, as lists of names and of tokens.
func rules() map[string][][]string {
	all := map[string][][]string{}
	for _, rule := range strings.Split(strings.TrimSpace(grammar), " .\n") {
		left, right, _ := strings.Cut(strings.TrimSuffix(rule, " ."), " =")
		for _, way := range strings.Split(strings.TrimSuffix(right, "|")+" ", " | ") {
			all[left] = append(all[left], strings.Fields(way))
		}
		if strings.HasSuffix(right, "|") {
			all[left] = append(all[left], nil)
		}
	}
	return all
}

var (
	blanks   = regexp.MustCompile(`^(?:[ \t\n\r]|#[^\n]*)*`)
	words    = regexp.MustCompile(`^[A-Za-z][A-Za-z0-9_]*`)
	integers = regexp.MustCompile(`^-?[0-9]+`)
	right    = regexp.MustCompile(`^(?:0|-?[1-9][0-9]*)$`)
	numbered = regexp.MustCompile(`^[rbac](?:0|[1-9][0-9]{0,2}|1000)$`)
)

// tokenAt returns what the first token of a text may be for the grammar, nothing if none begins there, and where it begins and ends. A bN is a HEAD if it has the number of the next block.
func tokenAt(text string, at, block int) ([]string, int, int) {
	at += len(blanks.FindString(text[at:]))
	rest := text[at:]
	if w := words.FindString(rest); w != "" {
		kinds := []string{strconv.Quote(w)}
		if len(w) <= 16 {
			kinds = append(kinds, "NAME")
		}
		if numbered.MatchString(w) {
			kinds = append(kinds, w[:1]+"N")
		}
		if w == "b"+strconv.Itoa(block) && block <= 1000 {
			kinds = append(kinds, "HEAD")
		}
		return kinds, at, at + len(w)
	}
	if i := integers.FindString(rest); i != "" {
		v, err := strconv.ParseInt(i, 10, 64)
		switch {
		case err != nil || !right.MatchString(i):
			return nil, at, at
		case v >= 0 && v <= 1000:
			return []string{"INTEGER", "N"}, at, at + len(i)
		}
		return []string{"INTEGER"}, at, at + len(i)
	}
	if rest != "" && strings.Contains("=,;:()[]{}", rest[:1]) {
		return []string{strconv.Quote(rest[:1])}, at, at + 1
	}
	return nil, at, at
}

// item is a way of a rule of which a part has been read, from the token start on.
type item struct {
	left             string
	way, read, start int
}

// recognizer goes through all ways to read a text at once.
type recognizer struct {
	rules map[string][][]string
	sets  []map[item]bool
}

// wrongPlace returns the place of the first token with which no module goes on, or that is none; -1 if the text is a module.
func (r *recognizer) wrongPlace(text string) int {
	r.sets = []map[item]bool{{}}
	for way := range r.rules["module"] {
		r.sets[0][item{"module", way, 0, 0}] = true
	}
	r.grow()
	block := 0
	for at := 0; ; {
		kinds, from, to := tokenAt(text, at, block)
		if from == len(text) {
			if r.isDone() {
				return -1
			}
			return from
		}
		next, met := map[item]bool{}, ""
		for i := range r.sets[len(r.sets)-1] {
			for _, kind := range kinds {
				if r.after(i) == kind {
					i.read++
					next[i] = true
					met = kind
					break
				}
			}
		}
		if len(next) == 0 {
			return from
		}
		switch met {
		case "HEAD":
			block++
		case `"{"`:
			block = 0
		}
		r.sets = append(r.sets, next)
		r.grow()
		at = to
	}
}

// after returns what stands after what was read, "" at the end.
func (r *recognizer) after(i item) string {
	if way := r.rules[i.left][i.way]; i.read < len(way) {
		return way[i.read]
	}
	return ""
}

func (r *recognizer) isDone() bool {
	for i := range r.sets[len(r.sets)-1] {
		if i.left == "module" && i.start == 0 && r.after(i) == "" {
			return true
		}
	}
	return false
}

// grow adds to the last set what follows from its items without a token.
func (r *recognizer) grow() {
	here := len(r.sets) - 1
	set := r.sets[here]
	for n := -1; n != len(set); {
		n = len(set)
		var more []item
		for i := range set {
			word := r.after(i)
			if word == "" {
				for j := range r.sets[i.start] {
					if r.after(j) == i.left {
						j.read++
						more = append(more, j)
					}
				}
				continue
			}
			for way := range r.rules[word] {
				more = append(more, item{word, way, 0, here})
			}
		}
		for _, i := range more {
			set[i] = true
		}
	}
}

// short has every kind of instruction and end in it.
const short = "cell g = -5; array a[4] small; main f; func f params 0 regs 4 { local[2]; global a; b0: r0 = 7; r1 = add r0, -1; check r0, 4; r1 = load a1[r0]; store a0[1] = r1; r2 = get c0; put c0 = r2; r0 = call h(r1, 1; a0); call i(); branch r0, b1, b2; b1: jump b2; b2: r1 = phi b0: r0, b1: 3; print r1; return; b3: r2 = phi; trap; } func h params 2 regs 2 result { param[2]; b0: return r1; b1: return -3; } func i params 0 regs 0 { local[3] small; b0: trap; }"

// P8.2: places are those that the grammar says, whatever was changed in a text.
func TestPlacesOfErrors(t *testing.T) {
	k := &recognizer{rules: rules()}
	if k.wrongPlace(short) != -1 || k.wrongPlace(whole) != -1 {
		t.Fatal("the recognizer")
	}
	draw := random(10)
	parts := strings.Fields("cell array small main func params regs result local param global check store put print load get call phi add le gt jump branch return trap x f r0 r1 r1000 r1001 r01 b0 b1 b2 b3 b4 a0 c0 a1x abcdefghijklmnop abcdefghijklmnopq 0 1 -1 -0 01 1000 1001 -9223372036854775808 9223372036854775808 5x = , ; : ( ) [ ] { } - _ . \" \xe9 # #\n")
	right, wrong := 0, 0
	for range 2500 {
		text := short
		for range 1 + draw.IntN(2) {
			from := draw.IntN(len(text) + 1)
			to := min(len(text), from+draw.IntN(4))
			part := parts[draw.IntN(len(parts))]
			text = text[:from] + []string{"", part, " " + part + " "}[draw.IntN(3)] + text[to:]
		}
		if draw.IntN(6) == 0 {
			text = text[:draw.IntN(len(text)+1)]
		}
		place := k.wrongPlace(text)
		_, at, e := ir.Parse(text)
		if place < 0 && e == api.ErrForm || place >= 0 && (e != api.ErrForm || at != place) {
			t.Fatalf("Parse(%q): %d at %d, want a wrong token at %d", text, e, at, place)
		}
		if place < 0 {
			right++
		} else {
			wrong++
		}
	}
	if right < 100 || wrong < 1000 {
		t.Errorf("%d right, %d wrong", right, wrong)
	}
}

// P8.2: each token of a text may be left out, be there twice, or be another one.
func TestOtherTokens(t *testing.T) {
	k := &recognizer{rules: rules()}
	var tokens []string
	for at := 0; at < len(short); {
		_, from, to := tokenAt(short, at, -1)
		tokens = append(tokens, short[from:to])
		at = to
	}
	draw := random(11)
	others := append([]string{"", "r0", "b0", "b1", "a0", "c0", "5", "-5", "2000", "x", "small", "result"}, tokens...)
	for i := range tokens {
		for range 8 {
			list := append([]string{}, tokens...)
			if other := others[draw.IntN(len(others))]; draw.IntN(4) > 0 {
				list[i] = other
			} else {
				list[i] += " " + other
			}
			text := strings.Join(list, " ")
			place := k.wrongPlace(text)
			if _, at, e := ir.Parse(text); place < 0 && e == api.ErrForm || place >= 0 && (e != api.ErrForm || at != place) {
				t.Fatalf("Parse(%q): %d at %d, want a wrong token at %d", text, e, at, place)
			}
		}
	}
}
