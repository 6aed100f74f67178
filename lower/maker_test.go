package lower_test

import (
	"fmt"
	"math/rand/v2"
	"strings"
	"testing"

	"cupel/api"
	"cupel/syntax"
	"cupel/types"
)

// maker writes programs, most of which have no flaw: those that have one are left out.
type maker struct {
	*rand.Rand
	funcs   []function
	visible []variable
	loops   int
	result  string // of the function that is being made
	left    int    // statements and expressions that may still be made, about
}

type function struct {
	name, result string
	params       []variable
}

// variable is a variable that has a value; length 0: a scalar.
type variable struct {
	name, kind string
	length     int
	fixed      bool
}

func makeProgram(seed uint64) string {
	m := &maker{Rand: random(seed)}
	m.left = 20 + m.IntN(100)
	big := m.IntN(6) == 0 // such a program may be too long
	var text strings.Builder
	for range m.IntN(5) {
		v := m.newVariable()
		m.visible = append(m.visible, v)
		value := ""
		if v.length == 0 && m.IntN(2) == 0 {
			value = " = " + map[string]string{"int": "-7", "small": "250s", "bool": "true"}[v.kind]
		}
		fmt.Fprintf(&text, "global %s: %s%s;\n", v.name, v.typ(), value)
	}
	globals := len(m.visible)
	for range m.IntN(4) {
		f := function{name: fmt.Sprint(m.pick("f", "v"), len(m.funcs)), result: m.pick("", "int", "small", "bool")}
		for range m.IntN(4) {
			v := m.newVariable()
			f.params, m.visible = append(f.params, v), append(m.visible, v)
		}
		text.WriteString(m.function(f))
		m.visible, m.funcs = m.visible[:globals], append(m.funcs, f)
	}
	m.left += 20 + m.IntN(80)
	if big {
		m.left += 200
	}
	text.WriteString(m.function(function{name: "main"}))
	return text.String()
}

func (m *maker) pick(list ...string) string { return list[m.IntN(len(list))] }

// newVariable has a name that comes again in other blocks, often with another type.
func (m *maker) newVariable() variable {
	v := variable{name: fmt.Sprint("v", len(m.visible)), kind: m.pick("int", "int", "small", "bool")}
	if v.kind != "bool" && m.IntN(3) == 0 {
		v.length = 1 + m.IntN(3)
		if m.IntN(20) == 0 {
			v.length = 16
		}
	}
	return v
}

func (v variable) typ() string {
	if v.length > 0 {
		return fmt.Sprintf("%s[%d]", v.kind, v.length)
	}
	return v.kind
}

func (m *maker) function(f function) string {
	var params []string
	for _, p := range f.params {
		params = append(params, p.name+": "+p.typ())
	}
	m.result = f.result
	text, result := m.block(6+m.IntN(8)+m.left/20, 0), ""
	if f.result != "" {
		result = ": " + f.result
		text = strings.TrimSuffix(text, "}") + "return " + m.expr(f.result, 0) + "; }"
	}
	return "func " + f.name + "(" + strings.Join(params, ", ") + ")" + result + " " + text + "\n"
}

func (m *maker) block(length, depth int) string {
	outside := len(m.visible)
	text := "{ "
	for range length {
		if m.left > 0 {
			text += m.stmt(depth) + " "
		}
	}
	m.visible = m.visible[:outside]
	return text + "}"
}

// any returns one of the visible variables that suit.
func (m *maker) any(suits func(v variable) bool) (variable, bool) {
	var list []variable
	for _, v := range m.visible {
		if suits(v) {
			list = append(list, v)
		}
	}
	if len(list) == 0 {
		return variable{}, false
	}
	return list[m.IntN(len(list))], true
}

func (m *maker) stmt(depth int) string {
	m.left--
	switch m.IntN(16) {
	case 0, 1, 2:
		return m.let()
	case 3, 4, 5:
		if v, ok := m.any(func(v variable) bool { return v.length == 0 && !v.fixed }); ok {
			return v.name + " = " + m.expr(v.kind, 0) + ";"
		}
	case 6, 7:
		if v, ok := m.any(func(v variable) bool { return v.length > 0 }); ok {
			return v.name + "[" + m.index(v.length, 1) + "] = " + m.expr(v.kind, 1) + ";"
		}
	case 8:
		if x, ok := m.call(m.pick("", "int", "small", "bool"), 1); ok {
			return x + ";"
		}
	case 9, 10, 11, 12:
		if depth < 3 {
			return m.compound(depth)
		}
	case 13:
		if m.IntN(4) == 0 {
			return m.leave()
		}
	}
	return "print " + m.expr(m.pick("int", "small", "bool"), 0) + ";"
}

func (m *maker) let() string {
	v := m.newVariable()
	text := "let " + v.name + ": " + v.typ()
	value := func() string { return " = " + m.expr(v.kind, 0) + ";" }
	switch {
	case v.length > 0:
		text += ";"
	case m.IntN(6) == 0:
		text += "; " + v.name + value()
	case m.IntN(6) == 0:
		text += "; if " + m.expr("bool", 1) + " { " + v.name + value() + " } else { " + v.name + value() + " }"
	default:
		text += value()
	}
	m.visible = append(m.visible, v)
	return text
}

func (m *maker) compound(depth int) string {
	length := 1 + m.IntN(4)
	switch m.IntN(4) {
	case 0:
		m.loops++
		defer func() { m.loops-- }()
		return fmt.Sprintf("while %s upto %d %s", m.expr("bool", 0), 1+m.IntN(4), m.block(length, depth+1))
	case 1:
		m.loops++
		defer func() { m.loops-- }()
		v := variable{name: fmt.Sprint("v", len(m.visible)), kind: "int", fixed: true}
		text := "for " + v.name + " in " + m.pick("0", "1", "-1", m.expr("int", 1)) + " .. " + m.pick("3", "2", "1", m.expr("int", 1)) + " "
		m.visible = append(m.visible, v)
		text += m.block(length, depth+1)
		m.visible = m.visible[:len(m.visible)-1]
		return text
	}
	text := "if " + m.expr("bool", 0) + " " + m.block(length, depth+1)
	if m.IntN(2) == 0 {
		text += " else " + m.block(length, depth+1)
	}
	return text
}

func (m *maker) leave() string {
	switch {
	case m.loops > 0 && m.IntN(3) > 0:
		return m.pick("break;", "continue;")
	case m.IntN(4) == 0:
		return "trap;"
	case m.result == "":
		return "return;"
	}
	return "return " + m.expr(m.result, 0) + ";"
}

func (m *maker) call(result string, depth int) (string, bool) {
	if len(m.funcs) == 0 || depth > 2 {
		return "", false
	}
	f := m.funcs[m.IntN(len(m.funcs))]
	if f.result != result {
		return "", false
	}
	var args []string
	for _, p := range f.params {
		if p.length == 0 {
			args = append(args, m.expr(p.kind, depth+1))
			continue
		}
		v, ok := m.any(func(v variable) bool {
			return v.kind == p.kind && v.length == p.length && !strings.Contains(strings.Join(args, " "), v.name)
		})
		if !ok {
			return "", false
		}
		args = append(args, v.name)
	}
	return f.name + "(" + strings.Join(args, ", ") + ")", true
}

func (m *maker) index(length, depth int) string {
	if m.IntN(10) > 0 {
		return fmt.Sprint(m.IntN(length))
	}
	return m.expr("int", depth+1)
}

func (m *maker) expr(kind string, depth int) string {
	m.left--
	if depth < 5 && m.left > 0 {
		switch m.IntN(9) {
		case 0, 1, 2:
			return m.operation(kind, depth+1)
		case 3:
			if x, ok := m.call(kind, depth+1); ok {
				return x
			}
		case 4:
			if v, ok := m.any(func(v variable) bool { return v.kind == kind && v.length > 0 }); ok {
				return v.name + "[" + m.index(v.length, depth) + "]"
			}
		case 5, 6, 7:
			if v, ok := m.any(func(v variable) bool { return v.kind == kind && v.length == 0 }); ok {
				return v.name
			}
		}
	}
	switch kind {
	case "int":
		return m.pick("0", "1", "2", "3", "9", "100", "255", "9223372036854775807")
	case "small":
		return m.pick("0s", "1s", "2s", "7s", "100s", "255s")
	}
	return m.pick("true", "false")
}

func (m *maker) operation(kind string, depth int) string {
	arg := func(kind string) string { return "(" + m.expr(kind, depth) + ")" }
	if kind == "bool" {
		switch m.IntN(4) {
		case 0:
			return "!" + arg(kind)
		case 1:
			return arg(kind) + m.pick(" && ", " || ", " == ", " != ") + arg(kind)
		}
		of := m.pick("int", "small")
		return arg(of) + m.pick(" == ", " != ", " < ", " <= ", " > ", " >= ") + arg(of)
	}
	switch m.IntN(5) {
	case 0:
		return m.pick("-", "~") + arg(kind)
	case 1:
		if kind == "int" {
			return "int(" + arg(m.pick("small", "bool")) + ")"
		}
		return "small(" + arg("int") + ")"
	case 2:
		second := arg(kind)
		if m.IntN(6) > 0 {
			second = map[string]string{"int": "3", "small": "3s"}[kind]
		}
		return arg(kind) + m.pick(" / ", " % ", " << ", " >> ") + second
	}
	return arg(kind) + m.pick(" * ", " + ", " - ", " & ", " ^ ", " | ") + arg(kind)
}

// programs calls look with many programs without a flaw.
func programs(t *testing.T, number int, look func(p api.Program)) {
	t.Helper()
	good := 0
	for seed := range uint64(number) {
		text := makeProgram(seed)
		p, at, e := syntax.Parse(text)
		if e == api.ErrSyntax {
			t.Fatalf("%s\nerror %d at %d", text, e, at)
		}
		if flaw, e := types.Check(p); e == api.OK && flaw.Code == 0 {
			good++
			look(p)
		}
	}
	if good < number/2 {
		t.Errorf("%d programs of %d", good, number)
	}
}
