package gen_test

import (
	"fmt"
	"strings"
	"testing"

	"cupel/api"
	"cupel/defined"
	"cupel/gen"
	"cupel/syntax"
	"cupel/types"
)

// The model writes the text of the program of a plan from the words of the chapter, with parentheses around all parts.
type model struct {
	state               uint64
	nfuncs, room, depth int
	funcs               []function
	visible             []variable
	names, loops        int
	seen                map[string]int // how often something happened that tests want to see
}

type function struct {
	name, result string
	params       []variable
}

// variable: length 0 is a scalar; where is global, param, let or for.
type variable struct {
	name, kind, where string
	length            int
}

func newModel(x api.Plan, seen map[string]int) *model {
	room := x.Stmts / (x.Funcs + 1)
	if room < 1 {
		room = 1
	}
	return &model{state: x.Seed, nfuncs: x.Funcs, room: room, depth: x.Depth, seen: seen}
}

func (m *model) draw(n int) int {
	m.state = gen.Next(m.state)
	return gen.Draw(m.state, n)
}

func (m *model) program() string {
	all := ""
	for i := range m.draw(4) {
		v := variable{name: fmt.Sprint("g", i), where: "global"}
		init := ""
		switch m.draw(6) {
		case 0, 1:
			v.kind = "int"
			init = fmt.Sprint(" = ", m.draw(100))
		case 2:
			v.kind = "small"
			init = fmt.Sprint(" = ", m.draw(256), "s")
		case 3:
			v.kind = "bool"
			init = fmt.Sprint(" = ", m.draw(2) == 1)
		case 4:
			v.kind, v.length = "int", 1+m.draw(6)
		case 5:
			v.kind, v.length = "small", 1+m.draw(6)
		}
		all += "global " + v.declared() + init + ";\n"
		m.visible = append(m.visible, v)
	}
	globals := len(m.visible)
	for i := range m.nfuncs {
		f := function{name: fmt.Sprint("f", i)}
		var params []string
		for j := range m.draw(3) {
			v := variable{name: fmt.Sprint("p", j), where: "param", kind: "int"}
			switch m.draw(5) {
			case 2:
				v.kind = "small"
			case 3:
				v.kind = "bool"
			case 4:
				v.length = 2 + m.draw(3)
			}
			f.params = append(f.params, v)
			m.visible = append(m.visible, v)
			params = append(params, v.declared())
		}
		f.result = []string{"", "int", "int", "small"}[m.draw(4)]
		all += "func " + f.name + "(" + strings.Join(params, ", ") + ")"
		if f.result != "" {
			all += ": " + f.result
		}
		m.names = 0
		all += " { " + m.statements(m.room, 2)
		if f.result != "" {
			all += "return " + m.expr(f.result, m.depth) + "; "
		}
		all += "}\n"
		m.visible = m.visible[:globals]
		m.funcs = append(m.funcs, f)
	}
	m.names = 0
	return all + "func main() { " + m.statements(m.room, 2) + "}\n"
}

func (v variable) declared() string {
	if v.length > 0 {
		return fmt.Sprintf("%s: %s[%d]", v.name, v.kind, v.length)
	}
	return v.name + ": " + v.kind
}

// statements uses up a room.
func (m *model) statements(n, d int) string {
	list := ""
	for n > 0 {
		n--
		form := m.draw(13)
		s, ok := m.statement(form, &n, d)
		if ok {
			m.seen[fmt.Sprint("statement ", form)]++
		} else {
			m.seen[fmt.Sprint("print instead of ", form)]++
			s, _ = m.statement(6, &n, d)
		}
		list += s + " "
	}
	return list
}

// inner is a block of a statement.
func (m *model) inner(n *int, d int, more ...variable) string {
	outside := len(m.visible)
	m.visible = append(m.visible, more...)
	room := m.draw(3) + 1
	if room > *n {
		m.seen[fmt.Sprint("room ", room, " cut to ", *n)]++
		room = *n
	}
	*n -= room
	list := m.statements(room, d-1)
	m.visible = m.visible[:outside]
	return "{ " + list + "}"
}

func (m *model) inLoop(n *int, d int, more ...variable) string {
	m.loops++
	list := m.inner(n, d, more...)
	m.loops--
	return list
}

func (m *model) condition() string {
	if m.depth > 2 {
		return m.expr("bool", 2)
	}
	return m.expr("bool", m.depth)
}

func (m *model) letKind() string {
	return []string{"int", "int", "int", "small", "bool"}[m.draw(5)]
}

func (m *model) statement(form int, n *int, d int) (string, bool) {
	switch form {
	case 0, 1:
		v := variable{kind: m.letKind(), where: "let"}
		value := m.expr(v.kind, m.depth)
		v.name = fmt.Sprint("v", m.names)
		m.names++
		m.visible = append(m.visible, v)
		return "let " + v.declared() + " = " + value + ";", true
	case 2:
		v := variable{name: fmt.Sprint("a", m.names), kind: "int", where: "let", length: 2 + m.draw(3)}
		m.names++
		m.visible = append(m.visible, v)
		return "let " + v.declared() + ";", true
	case 3, 4:
		if list := m.which(func(v variable) bool { return v.length == 0 && v.where != "for" }); len(list) > 0 {
			v := list[m.draw(len(list))]
			return v.name + " = " + m.expr(v.kind, m.depth) + ";", true
		}
	case 5:
		if list := m.which(func(v variable) bool { return v.length > 0 }); len(list) > 0 {
			v := list[m.draw(len(list))]
			index := ""
			if m.draw(2) == 0 {
				index = fmt.Sprint(m.draw(v.length))
			} else {
				index = m.expr("int", 1)
			}
			return v.name + "[" + index + "] = " + m.expr(v.kind, m.depth) + ";", true
		}
	case 6, 7:
		return "print " + m.expr(m.letKind(), m.depth) + ";", true
	case 8, 9, 10:
		if d > 0 {
			return m.compound(form, n, d), true
		}
	case 11:
		return m.callStatement()
	case 12:
		if m.loops > 0 {
			c := m.condition()
			return "if " + c + " { " + []string{"break", "continue"}[m.draw(2)] + "; }", true
		}
	}
	return "", false
}

func (m *model) compound(form int, n *int, d int) string {
	switch form {
	case 8:
		s := "if " + m.condition() + " " + m.inner(n, d)
		if m.draw(2) == 1 {
			s += " else " + m.inner(n, d)
		}
		return s
	case 9:
		a := m.draw(3)
		b := a + m.draw(5)
		v := variable{name: fmt.Sprint("i", m.names), kind: "int", where: "for"}
		m.names++
		return fmt.Sprint("for ", v.name, " in ", a, " .. ", b, " ", m.inLoop(n, d, v))
	}
	c := m.condition()
	return fmt.Sprint("while ", c, " upto ", 1+m.draw(5), " ", m.inLoop(n, d))
}

func (m *model) callStatement() (string, bool) {
	if len(m.funcs) == 0 {
		return "", false
	}
	f := m.funcs[m.draw(len(m.funcs))]
	var args []string
	taken := map[string]bool{}
	for _, p := range f.params {
		if p.length == 0 {
			depth := m.depth
			if depth > 2 {
				depth = 2
			}
			args = append(args, m.expr(p.kind, depth))
			continue
		}
		same := m.which(func(v variable) bool { return v.kind == p.kind && v.length == p.length })
		list := m.which(func(v variable) bool {
			return v.kind == p.kind && v.length == p.length && v.where != "global" && !taken[v.name]
		})
		if len(list) == 0 {
			m.seen[fmt.Sprint("no array of ", len(same), " for argument ", len(args))]++
			return "", false
		}
		if taken[same[0].name] {
			m.seen["an array was taken"]++
		}
		taken[list[0].name] = true
		args = append(args, list[0].name)
		m.seen["array "+list[0].where]++
	}
	return f.name + "(" + strings.Join(args, ", ") + ");", true
}

// which are the visible variables that suit.
func (m *model) which(suits func(v variable) bool) []variable {
	var list []variable
	for _, v := range m.visible {
		if suits(v) {
			list = append(list, v)
		}
	}
	return list
}

func (m *model) expr(kind string, depth int) string {
	if depth == 0 {
		return m.leaf(kind)
	}
	if m.draw(4) == 0 {
		return m.leaf(kind)
	}
	of := map[string]int{"int": 8, "small": 5, "bool": 4}
	form := fmt.Sprint(kind, " ", m.draw(of[kind]))
	s, ok := m.form(form, kind, depth-1)
	if !ok {
		m.seen["leaf instead of "+form]++
		return m.leaf(kind)
	}
	m.seen[form]++
	return s
}

// two are operands and an operator between them.
func (m *model) two(kind string, depth int, operators string) string {
	list := strings.Fields(operators)
	op := list[m.draw(len(list))]
	left := m.expr(kind, depth)
	return "(" + left + " " + op + " " + m.expr(kind, depth) + ")"
}

func (m *model) form(form, kind string, depth int) (string, bool) {
	const arithmetic, compare = "* / % + - << >> & ^ |", "== != < <= > >="
	switch form {
	case "int 0", "int 1", "int 2", "int 3", "small 0", "small 1", "small 2":
		return m.two(kind, depth, arithmetic), true
	case "int 4":
		list := m.which(func(v variable) bool { return v.length > 0 && v.kind == "int" })
		if len(list) == 0 {
			return "", false
		}
		v := list[m.draw(len(list))]
		return v.name + "[" + m.expr("int", depth) + "]", true
	case "int 5":
		sign := []string{"-", "~"}[m.draw(2)]
		return "(" + sign + m.expr("int", depth) + ")", true
	case "int 6":
		from := []string{"small", "bool"}[m.draw(2)]
		return "int(" + m.expr(from, depth) + ")", true
	case "int 7":
		return m.callValue(depth)
	case "small 3":
		return "(~" + m.expr("small", depth) + ")", true
	case "small 4":
		return "small(" + m.expr("int", depth) + ")", true
	case "bool 0":
		return m.two("int", depth, compare), true
	case "bool 1":
		return m.two("small", depth, compare), true
	case "bool 2":
		return m.two("bool", depth, "&& ||"), true
	}
	return "(!" + m.expr("bool", depth) + ")", true
}

func (m *model) callValue(depth int) (string, bool) {
	var list []function
	for _, f := range m.funcs {
		good := f.result == "int"
		for _, p := range f.params {
			good = good && p.length == 0
		}
		if good {
			list = append(list, f)
		}
	}
	if len(list) == 0 {
		return "", false
	}
	f := list[m.draw(len(list))]
	var args []string
	for _, p := range f.params {
		args = append(args, m.expr(p.kind, depth))
	}
	return f.name + "(" + strings.Join(args, ", ") + ")", true
}

func (m *model) leaf(kind string) string {
	list := m.which(func(v variable) bool { return v.kind == kind && v.length == 0 })
	if len(list) > 0 && m.draw(2) == 0 {
		v := list[m.draw(len(list))]
		m.seen["leaf "+v.where]++
		return v.name
	}
	switch kind {
	case "small":
		return fmt.Sprint(m.draw(256), "s")
	case "bool":
		return fmt.Sprint(m.draw(2) == 1)
	}
	s := []string{"0", "1", "2", "3", "7", "10", "64", "255", "1000"}[m.draw(9)]
	if m.draw(4) == 0 {
		return "(-" + s + ")"
	}
	return s
}

// guarded is the guarded program: the right operands are replaced in the text.
func guarded(p api.Program) (api.Program, api.Errno) {
	for {
		proof, e := defined.Prove(p)
		if e != api.OK || proof.Defined {
			return p, e
		}
		op, _ := syntax.At(p, proof.At)
		right := append(append([]int{}, proof.At...), 1)
		typ, _ := types.TypeOf(p, right)
		guard := map[int]string{api.TyInt: " & 63", api.TySmall: " & 7s"}[typ.Kind]
		if op.Expr.Op == api.BiDiv || op.Expr.Op == api.BiRem {
			guard += " | 1"
		}
		spans, _ := syntax.Spans(p)
		for _, s := range spans {
			if fmt.Sprint(s.Path) == fmt.Sprint(right) {
				all := text(p)
				p, _, e = syntax.Parse(all[:s.From] + "((" + all[s.From:s.To] + ")" + guard + ")" + all[s.To:])
			}
		}
		if e != api.OK {
			return p, e
		}
	}
}

// modelOf is the program of a plan as the model makes it, and how often it was begun again.
func modelOf(t *testing.T, x api.Plan, seen map[string]int) (api.Program, int) {
	t.Helper()
	again := 0
	for x.Stmts > 0 {
		m := newModel(x, seen)
		all := m.program()
		p, at, e := syntax.Parse(all)
		if e == api.OK {
			p, e = guarded(p)
		}
		switch {
		case e == api.OK:
			return p, again
		case e != api.ErrLong:
			t.Fatalf("%s\nerror %d at %d", all, e, at)
		}
		x.Seed, x.Stmts = m.state, x.Stmts/2
		again++
	}
	return read(t, "func main() { print 0; }"), again
}
