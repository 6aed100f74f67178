package defined_test

import (
	"fmt"
	"math/rand/v2"
	"strings"
	"testing"

	"cupel/api"
	"cupel/syntax"
	"cupel/types"
)

// maker writes programs, most of which have no flaw: those that have one are left out. Many of their operations are guarded, so that not all of them end at once.
type maker struct {
	*rand.Rand
	silent  bool // nothing is printed
	funcs   []function
	visible []variable
	loops   int
	result  string // of the function that is being made
	left    int    // statements and expressions that may still be made, about
}

type function struct {
	name, result string
	params       []variable
}

// variable is a variable that has a value; length 0: a scalar.
type variable struct {
	name, kind string
	length     int
	fixed      bool
}

func makeProgram(seed uint64, silent bool) string {
	m := &maker{Rand: rand.New(rand.NewPCG(seed, 5)), silent: silent}
	m.left = 40 + m.IntN(100)
	var text strings.Builder
	for range m.IntN(4) {
		v := m.newVariable()
		m.visible = append(m.visible, v)
		value := ""
		if v.length == 0 && m.IntN(2) == 0 {
			value = " = " + map[string]string{"int": "-7", "small": "3s", "bool": "true"}[v.kind]
		}
		fmt.Fprintf(&text, "global %s: %s%s;\n", v.name, v.typ(), value)
	}
	globals := len(m.visible)
	for range m.IntN(4) {
		f := function{name: fmt.Sprint("f", len(m.funcs)), result: m.pick("", "int", "int", "small", "bool")}
		for range m.IntN(4) {
			v := m.newVariable()
			f.params, m.visible = append(f.params, v), append(m.visible, v)
		}
		text.WriteString(m.function(f))
		m.visible, m.funcs = m.visible[:globals], append(m.funcs, f)
	}
	m.left += 80
	text.WriteString(m.main())
	return text.String()
}

// main makes the function main; in most programs all of it is in a loop, so that ranges have several values.
func (m *maker) main() string {
	if m.IntN(4) == 0 {
		return m.function(function{name: "main"})
	}
	m.result = ""
	m.loops++
	m.visible = append(m.visible, variable{name: "k", kind: "int", fixed: true}, variable{name: "s", kind: "small"}, variable{name: "b", kind: "bool"})
	return "func main() { for k in " + m.pick("-3", "0", "1", "60") + " .. " + m.pick("5", "9", "66") + " { let s: small = small(k * 37); let b: bool = k % 3 == 1;" + strings.TrimPrefix(m.block(4+m.IntN(6), 0), "{") + " }"
}

func (m *maker) pick(list ...string) string { return list[m.IntN(len(list))] }

// newVariable has a name that comes again in other blocks, often with another type.
func (m *maker) newVariable() variable {
	v := variable{name: fmt.Sprint("v", len(m.visible)), kind: m.pick("int", "int", "int", "small", "bool")}
	if v.kind != "bool" && m.IntN(4) == 0 {
		v.length = 1 + m.IntN(4)
	}
	return v
}

func (v variable) typ() string {
	if v.length > 0 {
		return fmt.Sprintf("%s[%d]", v.kind, v.length)
	}
	return v.kind
}

func (m *maker) function(f function) string {
	var params []string
	for _, p := range f.params {
		params = append(params, p.name+": "+p.typ())
	}
	m.result = f.result
	text, result := m.block(4+m.IntN(6), 0), ""
	if f.result != "" {
		result = ": " + f.result
		text = strings.TrimSuffix(text, "}") + "return " + m.expr(f.result, 0) + "; }"
	}
	return "func " + f.name + "(" + strings.Join(params, ", ") + ")" + result + " " + text + "\n"
}

func (m *maker) block(length, depth int) string {
	outside := len(m.visible)
	text := "{ "
	for range length {
		if m.left > 0 {
			text += m.stmt(depth) + " "
		}
	}
	m.visible = m.visible[:outside]
	return text + "}"
}

// any returns one of the visible variables that suit.
func (m *maker) any(suits func(v variable) bool) (variable, bool) {
	var list []variable
	for _, v := range m.visible {
		if suits(v) {
			list = append(list, v)
		}
	}
	if len(list) == 0 {
		return variable{}, false
	}
	return list[m.IntN(len(list))], true
}

func (m *maker) scalar(kind string) (variable, bool) {
	return m.any(func(v variable) bool { return v.kind == kind && v.length == 0 })
}

func (m *maker) array(kind string) (variable, bool) {
	return m.any(func(v variable) bool { return v.kind == kind && v.length > 0 })
}

func (m *maker) stmt(depth int) string {
	m.left--
	kind := m.pick("int", "int", "small", "bool")
	switch m.IntN(16) {
	case 0, 1, 2:
		return m.let(depth)
	case 3, 4, 5, 6:
		if v, ok := m.scalar(kind); ok && !v.fixed {
			return v.name + " = " + m.expr(v.kind, 0) + ";"
		}
	case 7:
		if v, ok := m.array(kind); ok {
			return v.name + "[" + m.index(v.length, 1) + "] = " + m.expr(v.kind, 1) + ";"
		}
	case 8:
		if x, ok := m.call(m.pick("", "int", "small", "bool"), 1); ok {
			return x + ";"
		}
	case 9, 10, 11, 12:
		if depth < 3 {
			return m.compound(depth)
		}
	case 13:
		if depth > 0 && m.IntN(3) == 0 {
			return m.leave()
		}
	}
	if x := m.expr(kind, 0); !m.silent {
		return "print " + x + ";"
	} else if kind == "bool" {
		return "if " + x + " { }"
	} else {
		return "if " + x + " == " + m.literal(kind) + " { }"
	}
}

func (m *maker) let(depth int) string {
	v := m.newVariable()
	text := "let " + v.name + ": " + v.typ()
	switch {
	case v.length > 0:
		text += ";"
	case m.IntN(4) == 0:
		text += "; if " + m.expr("bool", 1) + " { " + v.name + " = " + m.expr(v.kind, 1) + "; } else { " + m.pick(v.name+" = "+m.expr(v.kind, 1)+";", m.leave()) + " }"
	default:
		text += " = " + m.expr(v.kind, 0) + ";"
	}
	m.visible = append(m.visible, v)
	return text
}

func (m *maker) compound(depth int) string {
	length := 1 + m.IntN(4)
	switch m.IntN(4) {
	case 0:
		m.loops++
		defer func() { m.loops-- }()
		return fmt.Sprintf("while %s upto %d %s", m.expr("bool", 0), 1+m.IntN(5), m.block(length, depth+1))
	case 1:
		m.loops++
		defer func() { m.loops-- }()
		v := variable{name: fmt.Sprint("v", len(m.visible)), kind: "int", fixed: true}
		text := "for " + v.name + " in " + m.pick("0", "1", "-2", m.expr("int", 2)) + " .. " + m.pick("4", "3", "2", m.expr("int", 2)) + " "
		m.visible = append(m.visible, v)
		text += m.block(length, depth+1)
		m.visible = m.visible[:len(m.visible)-1]
		return text
	}
	text := "if " + m.expr("bool", 0) + " " + m.block(length, depth+1)
	if m.IntN(2) == 0 {
		text += " else " + m.block(length, depth+1)
	}
	return text
}

func (m *maker) leave() string {
	switch {
	case m.loops > 0 && m.IntN(4) > 0:
		return m.pick("break;", "continue;")
	case m.IntN(5) == 0:
		return "trap;"
	case m.result == "":
		return "return;"
	}
	return "return " + m.expr(m.result, 1) + ";"
}

func (m *maker) call(result string, depth int) (string, bool) {
	var fit []function
	for _, f := range m.funcs {
		if f.result == result {
			fit = append(fit, f)
		}
	}
	if len(fit) == 0 || depth > 2 {
		return "", false
	}
	f := fit[m.IntN(len(fit))]
	var args []string
	for _, p := range f.params {
		if p.length == 0 {
			args = append(args, m.expr(p.kind, depth+1))
			continue
		}
		v, ok := m.any(func(v variable) bool {
			return v.kind == p.kind && v.length == p.length && !strings.Contains(strings.Join(args, " "), v.name)
		})
		if !ok {
			return "", false
		}
		args = append(args, v.name)
	}
	return f.name + "(" + strings.Join(args, ", ") + ")", true
}

func (m *maker) index(length, depth int) string {
	if m.IntN(5) > 0 {
		return fmt.Sprint(m.IntN(length))
	}
	return m.expr("int", depth+1)
}

func (m *maker) literal(kind string) string {
	switch kind {
	case "int":
		return m.pick("0", "0", "1", "2", "3", "5", "9", "64", "255", "9223372036854775807")
	case "small":
		return m.pick("0s", "1s", "2s", "3s", "7s", "9s", "100s", "255s")
	}
	return m.pick("true", "false")
}

func (m *maker) expr(kind string, depth int) string {
	m.left--
	if depth < 5 && m.left > 0 {
		switch m.IntN(11) {
		case 0, 1, 2, 3:
			if kind == "bool" {
				return m.condition(depth + 1)
			}
			return m.operation(kind, depth+1)
		case 4:
			if x, ok := m.call(kind, depth+1); ok {
				return x
			}
		case 5:
			if v, ok := m.array(kind); ok {
				return v.name + "[" + m.index(v.length, depth) + "]"
			}
		case 6, 7, 8, 9:
			if v, ok := m.scalar(kind); ok {
				return v.name
			}
			if kind == "bool" {
				return m.condition(depth + 1)
			}
		}
	}
	return m.literal(kind)
}

func (m *maker) arg(kind string, depth int) string { return "(" + m.expr(kind, depth) + ")" }

// name is a variable, or another expression if there is none of the kind.
func (m *maker) name(kind string, depth int) string {
	if v, ok := m.scalar(kind); ok {
		return v.name
	}
	return m.arg(kind, depth)
}

func (m *maker) condition(depth int) string {
	of := m.pick("int", "int", "small")
	compare := m.pick(" == ", " != ", " < ", " <= ", " > ", " >= ")
	switch m.IntN(9) {
	case 0:
		return "!" + m.arg("bool", depth)
	case 1, 2:
		return m.arg("bool", depth) + m.pick(" && ", " || ", " && ", " || ", " == ", " != ") + m.arg("bool", depth)
	case 3, 4:
		return m.name(of, depth) + compare + m.literal(of)
	case 5:
		return m.literal(of) + compare + m.name(of, depth)
	case 6:
		return m.name(of, depth) + compare + m.name(of, depth)
	case 7:
		if v, ok := m.scalar("int"); ok {
			return m.pick(
				v.name+" != 0 && 90 / "+v.name+compare+"4",
				v.name+" == 0 || "+v.name+" % "+v.name+compare+"4",
				v.name+" >= 0 && "+v.name+" < 64 && 1 << "+v.name+compare+"4",
				"!("+v.name+" < 0 || "+v.name+" > 63) && 700 >> "+v.name+compare+"4")
		}
	}
	return m.arg(of, depth) + compare + m.arg(of, depth)
}

func (m *maker) operation(kind string, depth int) string {
	one, mask := "1", "63"
	if kind == "small" {
		one, mask = "1s", "7s"
	}
	switch m.IntN(7) {
	case 0:
		return m.pick("-", "~") + m.arg(kind, depth)
	case 1:
		if kind == "int" {
			return "int(" + m.arg(m.pick("small", "bool"), depth) + ")"
		}
		return "small(" + m.arg("int", depth) + ")"
	case 2:
		sign := m.pick(" / ", " % ")
		return m.arg(kind, depth) + sign + m.pick(m.name(kind, depth), "("+m.name(kind, depth)+" | "+one+")", m.literal(kind))
	case 3:
		sign := m.pick(" << ", " >> ")
		return m.arg(kind, depth) + sign + m.pick(m.name(kind, depth), "("+m.name(kind, depth)+" & "+mask+")", one)
	}
	return m.arg(kind, depth) + m.pick(" * ", " + ", " - ", " + ", " - ", " & ", " ^ ", " | ") + m.arg(kind, depth)
}

// programs calls look with many programs without a flaw.
func programs(t *testing.T, number int, silent bool, look func(p api.Program)) {
	t.Helper()
	good := 0
	for seed := range uint64(number) {
		text := makeProgram(seed, silent)
		p, at, e := syntax.Parse(text)
		if e == api.ErrSyntax {
			t.Fatalf("%s\nerror %d at %d", text, e, at)
		}
		if flaw, e := types.Check(p); e == api.OK && flaw.Code == 0 {
			good++
			look(p)
		}
	}
	if good < number/2 {
		t.Errorf("%d programs of %d", good, number)
	}
}
