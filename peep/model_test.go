package peep_test

import (
	"math/big"
	"slices"
	"strconv"
	"strings"

	"cupel/api"
	"cupel/samples"
)

// The model changes the canonical text of a module by patterns, which say in the words of the chapter what an operation is, what its operand x is the result of, and what becomes of it. In them x, y and z are any operands, r is a register, c and d are constants, and n is the number that is calculated of c and d. Numbers may have any size, and wrap at the end.

type pattern struct {
	rule, fault        int
	is, result, become string
	when               func(c, d *big.Int) bool     // nil: always
	number             func(c, d *big.Int) *big.Int // nil: none
}

// patterns are those of all rules for operations; of those that an operation has the first one counts.
var patterns = allPatterns()

// allPatterns returns those of the rules 1 to 17.
func allPatterns() []pattern {
	var list []pattern
	for word, do := range operations {
		list = append(list, pattern{rule: 1, is: word + " c d", become: "n", number: do})
		if slices.Contains([]string{"div", "rem"}, word) {
			list[len(list)-1].when = func(_, d *big.Int) bool { return d.Sign() != 0 }
		}
	}
	for _, word := range strings.Fields("add mul and or xor eq ne") {
		list = append(list, pattern{rule: 2, is: word + " c r", become: word + " r c"})
	}
	list = append(list, identities()...)
	for n := 1; n <= 62; n++ {
		by := new(big.Int).Lsh(big.NewInt(1), uint(n)).String()
		list = append(list,
			pattern{rule: 8, is: "mul x " + by, become: "shl x " + strconv.Itoa(n)},
			pattern{rule: 17, fault: api.FtShift, is: "div x " + by, become: "shr x " + strconv.Itoa(n)})
	}
	notZero := func(c, _ *big.Int) bool { return c.Sign() != 0 }
	list = append(list, pattern{rule: 9, is: "sub x c", become: "add x n", when: notZero, number: func(c, _ *big.Int) *big.Int { return new(big.Int).Neg(c) }})
	for rule, words := range map[int]string{10: "add", 11: "and or xor", 12: "mul"} {
		for _, word := range strings.Fields(words) {
			do := operations[word]
			list = append(list, pattern{rule: rule, is: word + " x c", result: word + " y d", become: word + " y n", number: func(c, d *big.Int) *big.Int { return do(d, c) }})
		}
	}
	list = append(list, pattern{rule: 13, is: "shl x c", result: "shl y d", become: "shl y n",
		when:   func(c, d *big.Int) bool { return turn(c).Int64()+turn(d).Int64() < 64 },
		number: func(c, d *big.Int) *big.Int { return turn(c).Add(turn(c), turn(d)) }})
	list = append(list, comparing()...)
	slices.SortStableFunc(list, func(a, b pattern) int { return a.rule - b.rule })
	return list
}

// identities returns the patterns of the rules 3 to 7 and 14.
func identities() []pattern {
	var list []pattern
	add := func(rule int, become string, is ...string) {
		for _, s := range is {
			list = append(list, pattern{rule: rule, is: s, become: become})
		}
	}
	add(3, "x", "add x 0", "sub x 0", "or x 0", "xor x 0", "mul x 1", "div x 1", "and x -1")
	whole := func(c, _ *big.Int) bool { return turn(c).Sign() == 0 }
	list = append(list, pattern{rule: 3, is: "shl x c", become: "x", when: whole}, pattern{rule: 3, is: "shr x c", become: "x", when: whole})
	add(4, "0", "mul x 0", "and x 0", "rem x 1", "rem x -1")
	add(5, "-1", "or x -1")
	add(6, "0", "sub r r", "xor r r")
	add(6, "r", "and r r", "or r r")
	add(6, "1", "eq r r", "le r r")
	add(6, "0", "ne r r", "lt r r")
	add(7, "sub 0 x", "div x -1")
	return append(list, pattern{rule: 14, is: "sub 0 x", result: "sub 0 y", become: "y"})
}

// comparing returns the patterns of the rules 15 and 16.
func comparing() []pattern {
	var list []pattern
	for _, word := range []string{"eq", "ne", "lt", "le"} {
		list = append(list, pattern{rule: 15, is: "ne x 0", result: word + " y z", become: "x"})
	}
	return append(list,
		pattern{rule: 16, is: "eq x 0", result: "eq y z", become: "ne y z"},
		pattern{rule: 16, is: "eq x 0", result: "ne y z", become: "eq y z"},
		pattern{rule: 16, is: "eq x 0", result: "lt y z", become: "lt z y", fault: api.FtNotLess},
		pattern{rule: 16, is: "eq x 0", result: "lt y z", become: "le z y"},
		pattern{rule: 16, is: "eq x 0", result: "le y z", become: "lt z y"})
}

// turn returns a number modulo 64, from 0 to 63.
func turn(c *big.Int) *big.Int { return new(big.Int).Mod(c, big.NewInt(64)) }

// operations are those of two numbers of any size.
var operations = map[string]func(a, b *big.Int) *big.Int{
	"add": func(a, b *big.Int) *big.Int { return new(big.Int).Add(a, b) },
	"sub": func(a, b *big.Int) *big.Int { return new(big.Int).Sub(a, b) },
	"mul": func(a, b *big.Int) *big.Int { return new(big.Int).Mul(a, b) },
	"div": func(a, b *big.Int) *big.Int { return new(big.Int).Quo(a, b) },
	"rem": func(a, b *big.Int) *big.Int { return new(big.Int).Rem(a, b) },
	"and": func(a, b *big.Int) *big.Int { return new(big.Int).And(a, b) },
	"or":  func(a, b *big.Int) *big.Int { return new(big.Int).Or(a, b) },
	"xor": func(a, b *big.Int) *big.Int { return new(big.Int).Xor(a, b) },
	"shl": func(a, b *big.Int) *big.Int { return new(big.Int).Lsh(a, uint(turn(b).Int64())) },
	"shr": func(a, b *big.Int) *big.Int { return new(big.Int).Rsh(a, uint(turn(b).Int64())) },
	"eq":  truth(func(order int) bool { return order == 0 }),
	"ne":  truth(func(order int) bool { return order != 0 }),
	"lt":  truth(func(order int) bool { return order < 0 }),
	"le":  truth(func(order int) bool { return order <= 0 }),
}

// truth returns a comparison, which is true for some orders of its operands.
func truth(is func(order int) bool) func(a, b *big.Int) *big.Int {
	return func(a, b *big.Int) *big.Int {
		if is(a.Cmp(b)) {
			return big.NewInt(1)
		}
		return new(big.Int)
	}
}

// wrapped returns the text of a number of 64 bits.
func wrapped(n *big.Int) string {
	half := new(big.Int).Lsh(big.NewInt(1), 63)
	n = new(big.Int).Add(n, half)
	n.Mod(n, new(big.Int).Lsh(big.NewInt(1), 64))
	return n.Sub(n, half).String()
}

type model struct {
	samples.Listing
	faults []int
}

// modelRun makes so many applications.
func modelRun(m api.Module, k int, x api.Limit) (api.Module, []api.Applied, api.Errno) {
	d := model{samples.ListingOf(m, k), x.Faults}
	list, order := []api.Applied{}, d.order()
	for last := -1; last < len(list); {
		last = len(list)
		for _, b := range order {
			for i := 0; i < len(d.Blocks[b]); {
				rule, text := d.change(d.Blocks[b][i].Words)
				if rule == 0 || len(list) == x.Most {
					i++
					continue
				}
				a := api.Applied{Pass: api.PsPeep, Rule: rule, Func: k, Block: b, Index: i}
				if i == len(d.Blocks[b])-1 {
					a.Index = -1
				}
				list = append(list, a)
				if text == "" {
					d.Blocks[b] = slices.Delete(d.Blocks[b], i, i+1)
				} else {
					d.Blocks[b][i] = samples.LineOf(text)
				}
			}
		}
	}
	made, e := d.Module()
	return made, list, e
}

// order returns the blocks that are reached, in reverse postorder.
func (d model) order() []int {
	var list []int
	entered := map[int]bool{}
	var enter func(b int)
	enter = func(b int) {
		if entered[b] {
			return
		}
		entered[b] = true
		var next []int
		for _, word := range d.Blocks[b][len(d.Blocks[b])-1].Words[1:] {
			if word[0] == 'b' {
				n, _ := strconv.Atoi(word[1:])
				next = append(next, n)
			}
		}
		slices.Sort(next)
		for _, to := range next {
			enter(to)
		}
		list = append(list, b)
	}
	enter(0)
	slices.Reverse(list)
	return list
}

// change returns which rule there is for a line, or 0, and what becomes of the line.
func (d model) change(w []string) (rule int, text string) {
	switch {
	case len(w) == 4 && operations[w[1]] != nil:
		rule, become := d.rewrite(w[1:])
		return rule, w[0] + " = " + become + ";"
	case w[0] == "check" && d.isMasked(w[1], w[2]):
		return 18, ""
	case w[0] == "branch" && w[2] == w[3]:
		return 19, "jump " + w[2] + ";"
	case w[0] == "branch":
		x := d.definition(w[1])
		if x[0] == "ne" && x[2] == "0" {
			return 20, "branch " + x[1] + ", " + w[2] + ", " + w[3] + ";"
		}
		if x[0] == "eq" && x[2] == "0" {
			return 21, "branch " + x[1] + ", " + w[3] + ", " + w[2] + ";"
		}
	}
	return 0, ""
}

// definition returns the words of the operation of which an operand is the result, or empty ones.
func (d model) definition(operand string) []string {
	for _, block := range d.Blocks {
		for _, l := range block {
			if l.Words[0] == operand && operations[l.Words[1]] != nil {
				return l.Words[1:]
			}
		}
	}
	return []string{"", "", ""}
}

func isNumber(word string) bool { return word[0] != 'r' }

func numberOf(word string) *big.Int {
	n, _ := new(big.Int).SetString(word, 10)
	return n
}

func (d model) isMasked(x, c string) bool {
	w := d.definition(x)
	if w[0] != "and" || !isNumber(w[2]) || !isNumber(c) {
		return false
	}
	return numberOf(w[2]).Sign() >= 0 && numberOf(w[2]).Cmp(numberOf(c)) < 0
}

// rewrite returns the first rule with a pattern that an operation has, and what it becomes.
func (d model) rewrite(w []string) (rule int, become string) {
	for _, p := range patterns {
		names := map[string]string{}
		if !strings.HasPrefix(p.is, w[0]+" ") || p.fault > 0 && !slices.Contains(d.faults, p.fault) || !match(p.is, w, names) {
			continue
		}
		if p.result != "" && !match(p.result, d.definition(names["x"]), names) {
			continue
		}
		var c, e *big.Int
		if names["c"] != "" {
			c = numberOf(names["c"])
		}
		if names["d"] != "" {
			e = numberOf(names["d"])
		}
		if p.when != nil && !p.when(c, e) {
			continue
		}
		if p.number != nil {
			names["n"] = wrapped(p.number(c, e))
		}
		return p.rule, fill(p.become, names)
	}
	return 0, ""
}

// match reports whether an operation has a pattern, and notes what its names stand for.
func match(pattern string, w []string, names map[string]string) bool {
	for i, word := range strings.Fields(pattern) {
		known, again := names[word]
		isName := strings.Contains("xyzrcd", word) && i > 0
		switch {
		case !isName && word != w[i], again && known != w[i]:
			return false
		case isName && (word == "r" && isNumber(w[i]) || strings.Contains("cd", word) && !isNumber(w[i])):
			return false
		case isName:
			names[word] = w[i]
		}
	}
	return true
}

// fill returns the text of what an operation becomes.
func fill(pattern string, names map[string]string) string {
	w := strings.Fields(pattern)
	for i, word := range w {
		if is, named := names[word]; named {
			w[i] = is
		}
	}
	if len(w) == 1 {
		return w[0]
	}
	return w[0] + " " + w[1] + ", " + w[2]
}
