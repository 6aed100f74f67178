package rewrite_test

import (
	"fmt"
	"math/big"
	"regexp"
	"strconv"
	"strings"

	"cupel/api"
	"cupel/gen"
	"cupel/syntax"
	"cupel/types"
)

// The model changes the canonical text of a program, and reads it again. What the nodes are it sees from their texts alone.
type model struct {
	text  string
	spans map[string][2]int // by the paths, as steps writes them
	paths [][]int
}

func newModel(p api.Program) model {
	m := model{text: text(p), spans: map[string][2]int{}}
	spans, _ := syntax.Spans(p)
	for _, s := range spans {
		m.spans[steps(s.Path)] = [2]int{s.From, s.To}
		m.paths = append(m.paths, s.Path)
	}
	return m
}

// of returns the text of a node, and whether there is one.
func (m model) of(path []int) (string, bool) {
	s, ok := m.spans[steps(path)]
	return m.text[s[0]:s[1]], ok
}

// change is what stands in the text instead of a node.
type change struct {
	path []int
	with string
}

// read returns the program with nodes changed, which are in the order of the text; false: it is none, is not small, or has a flaw.
func (m model) read(list ...change) (api.Program, bool) {
	var out strings.Builder
	at := 0
	for _, c := range list {
		s := m.spans[steps(c.path)]
		out.WriteString(m.text[at:s[0]] + c.with)
		at = s[1]
	}
	out.WriteString(m.text[at:])
	p, _, e := syntax.Parse(out.String())
	if e != api.OK {
		return api.Program{}, false
	}
	flaw, e := types.Check(p)
	return p, e == api.OK && flaw.Code == 0
}

func child(path []int, step int) []int { return append(append([]int(nil), path...), step) }

var (
	callText    = regexp.MustCompile(`[A-Za-z]\w*\(`)
	heavyText   = regexp.MustCompile(`\[|/|%|<<|>>`)
	declared    = regexp.MustCompile(`\b(\w+):|for (\w+) in`)
	plainText   = regexp.MustCompile(`^(print |[A-Za-z]\w*[\[(])`)
	forText     = regexp.MustCompile(`^for (\w+) in (\d+) \.\. (\d+) \{`)
	letText     = regexp.MustCompile(`^let (\w+): (int|small|bool)( = (.*))?;$`)
	anyLetText  = regexp.MustCompile(`^(let )(\w+)(: )`)
	anyForText  = regexp.MustCompile(`^(for )(\w+)( in )`)
	literalText = regexp.MustCompile(`^(\d+)(s?)$`)
	hoistable   = regexp.MustCompile(`^(let|print|if|for|return)\b|^\w+(\[.*\])? = `)
)

// isSimple looks for an index, a division, a shift, or a call of something but int and small.
func isSimple(x string) bool {
	x = strings.NewReplacer("int(", "", "small(", "").Replace(" " + x)
	return !heavyText.MatchString(x) && !callText.MatchString(x)
}

// newName is the first of t0, t1, .. that is declared nowhere.
func (m model) newName() string {
	taken := " "
	for _, list := range declared.FindAllStringSubmatch(m.text, -1) {
		taken += list[1] + list[2] + " "
	}
	for n := 0; ; n++ {
		if name := fmt.Sprint("t", n); !strings.Contains(taken, " "+name+" ") {
			return name
		}
	}
}

// meant replaces a name in a text, but not that of a function that is called.
func meant(text, name, with string) string {
	return regexp.MustCompile(`\b`+name+`\b\(?`).ReplaceAllStringFunc(text, func(found string) string {
		if strings.HasSuffix(found, "(") {
			return found
		}
		return with
	})
}

// block returns the text of the block to which a path leads, and how many statements are in it.
func (m model) block(path []int) (string, int) {
	n, from, to := 0, 0, 0
	for ; ; n++ {
		s, ok := m.spans[steps(child(path, n))]
		if !ok {
			return m.text[from:to], n
		}
		if n == 0 {
			from = s[0]
		}
		to = s[1]
	}
}

// apply returns what becomes of a program by a rule at a path; false: nothing, that is no site.
func (m model) apply(rule int, path []int, seed uint64) (api.Program, bool) {
	if len(path) < 2 {
		return api.Program{}, false
	}
	form := m.stmt
	if rule <= deny || rule == double || rule == shift {
		form = m.expr
	}
	for _, list := range form(rule, path, seed) {
		if p, ok := m.read(list...); ok {
			return p, true
		}
	}
	return api.Program{}, false
}

// sign returns the operator between both operands of a node; the comma of a call is none of a rule.
func (m model) sign(path []int) string {
	right, ok := m.spans[steps(child(path, 1))]
	if !ok {
		return ""
	}
	return strings.Trim(m.text[m.spans[steps(child(path, 0))][1]:right[0]], " ()")
}

// isExpr reports whether a path is that of an expression: its last step does not name a statement.
func (m model) isExpr(path []int) bool {
	x, ok := m.of(path)
	return ok && !strings.HasSuffix(x, ";") && !strings.HasSuffix(x, "}")
}

// expr returns the changes that a rule of expressions may be; the first one that makes a program without a flaw is it.
func (m model) expr(rule int, path []int, _ uint64) [][]change {
	x, _ := m.of(path)
	if !m.isExpr(path) {
		return nil
	}
	one := func(format string, args ...any) [][]change {
		return [][]change{{{path, fmt.Sprintf("("+format+")", args...)}}}
	}
	switch rule {
	case zero:
		return append(one("(%s) + 0", x), one("(%s) + 0s", x)...)
	case negate:
		return one("-(-(%s))", x)
	case invert:
		return one("~(~(%s))", x)
	case deny:
		return one("!(!(%s))", x)
	}
	sign := m.sign(path)
	if sign == "" {
		return nil
	}
	in := func(list string) bool { return strings.Contains(" "+list+" ", " "+sign+" ") }
	left, _ := m.of(child(path, 0))
	right, _ := m.of(child(path, 1))
	simple := isSimple(left) && isSimple(right)
	switch {
	case rule == commute && simple && in("+ * & ^ | == != && ||"):
		return one("(%s) %s (%s)", right, sign, left)
	case rule == mirror && simple && in("< <= > >="):
		return one("(%s) %s (%s)", right, map[byte]string{'<': ">", '>': "<"}[sign[0]]+sign[1:], left)
	case rule == associate && in("+ * & ^ | && ||") && m.sign(child(path, 0)) == sign:
		first, _ := m.of(child(child(path, 0), 0))
		second, _ := m.of(child(child(path, 0), 1))
		return one("(%s) %s ((%s) %s (%s))", first, sign, second, sign, right)
	case rule == double && sign == "*" && isSimple(left) && (right == "2" || right == "2s"):
		return one("(%s) + (%s)", left, left)
	case rule == shift && sign == "*" && literalText.MatchString(right):
		parts := literalText.FindStringSubmatch(right)
		for k := 1; k < 63; k++ {
			if parts[1] == new(big.Int).Lsh(big.NewInt(1), uint(k)).String() {
				return one("(%s) << %d%s", left, k, parts[2])
			}
		}
	}
	return nil
}

// stmt returns the changes that a rule of statements may be, likewise.
func (m model) stmt(rule int, path []int, seed uint64) [][]change {
	s, _ := m.of(path)
	if m.isExpr(path) {
		return nil
	}
	one := func(format string, args ...any) [][]change {
		return [][]change{{{path, fmt.Sprintf(format, args...)}}}
	}
	first, some := m.of(child(path, 2))
	switch {
	case rule == turn && strings.HasPrefix(s, "if "):
		body, _ := m.block(child(path, 0))
		if other, n := m.block(child(path, 1)); n > 0 {
			return one("if !(%s) { %s } else { %s }", first, other, body)
		}
	case rule == wrap && plainText.MatchString(s):
		return one("if true { %s }", s)
	case rule == once && plainText.MatchString(s):
		return one("while true upto 1 { %s }", s)
	case rule == single && plainText.MatchString(s):
		return one("for %s in 0 .. 1 { %s }", m.newName(), s)
	case rule == hoist && some && hoistable.MatchString(s):
		var list [][]change
		name, from, at := m.newName(), m.spans[steps(path)][0], m.spans[steps(child(path, 2))]
		for _, kind := range []string{"int", "small", "bool"} {
			let := fmt.Sprintf("let %s: %s = %s; ", name, kind, first)
			list = append(list, []change{{path, let + s[:at[0]-from] + name + s[at[1]-from:]}})
		}
		return list
	case rule == dead:
		return one("let %s: int = %d; %s", m.newName(), gen.Draw(gen.Next(seed), 100), s)
	case rule == peel && forText.MatchString(s) && !leavesLoop(s):
		return m.peeled(path, s)
	case rule == rename:
		return m.renamed(path, s)
	case rule == part && letText.MatchString(s) && !some:
		none := map[string]string{"int": "0", "small": "0s", "bool": "false"}[letText.FindStringSubmatch(s)[2]]
		return one("%s = %s;", strings.TrimSuffix(s, ";"), none)
	case rule == exchange:
		next := child(path[:len(path)-1], path[len(path)-1]+1)
		other, _ := m.of(next)
		x, y := letText.FindStringSubmatch(s), letText.FindStringSubmatch(other)
		if x != nil && y != nil && x[4] != "" && y[4] != "" && isSimple(x[4]) && isSimple(y[4]) && meant(y[4], x[1], "") == y[4] {
			return [][]change{{{path, other}, {next, s}}}
		}
	}
	return nil
}

// leavesLoop looks in the lines of a for, above each break or continue, for the loop to which it belongs.
func leavesLoop(s string) bool {
	lines := strings.Split(s, "\n")
	tabs := func(line string) int { return len(line) - len(strings.TrimLeft(line, "\t")) }
	for i, line := range lines {
		if word := strings.TrimSpace(line); word != "break;" && word != "continue;" {
			continue
		}
		depth := tabs(line)
		for i--; i > 0; i-- {
			if above := tabs(lines[i]); above < depth {
				depth = above
				if word := strings.TrimSpace(lines[i]); strings.HasPrefix(word, "for ") || strings.HasPrefix(word, "while ") {
					break
				}
			}
		}
		if i == 0 {
			return true
		}
	}
	return false
}

func (m model) peeled(path []int, s string) [][]change {
	parts := forText.FindStringSubmatch(s)
	low, _ := strconv.ParseInt(parts[2], 10, 64)
	high, _ := strconv.ParseInt(parts[3], 10, 64)
	if low >= high {
		return nil
	}
	body, _ := m.block(child(path, 0))
	with := fmt.Sprintf("if true { %s } for %s in %d .. %d { %s }", meant(body, parts[1], parts[2]), parts[1], low+1, high, body)
	return [][]change{{{path, with}}}
}

func (m model) renamed(path []int, s string) [][]change {
	name := m.newName()
	if parts := anyForText.FindStringSubmatch(s); parts != nil {
		return [][]change{{{path, meant(s, parts[2], name)}}}
	}
	parts := anyLetText.FindStringSubmatch(s)
	if parts == nil {
		return nil
	}
	list := []change{{path, anyLetText.ReplaceAllString(s, "${1}"+name+"${3}")}}
	block := path[:len(path)-1]
	_, n := m.block(block)
	for i := path[len(path)-1] + 1; i < n; i++ {
		next, _ := m.of(child(block, i))
		list = append(list, change{child(block, i), meant(next, parts[2], name)})
	}
	return [][]change{list}
}
