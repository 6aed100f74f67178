package lower_test

import (
	"fmt"
	"slices"
	"strings"

	"cupel/api"
	"cupel/syntax"
	"cupel/types"
)

// model writes the text of a module from the definitions of the chapter, instruction by instruction, as text.
type model struct {
	p      api.Program
	faults []int
	cells  []string
	arrays []string // of the module

	// Of the function that is being made:
	params, regs int
	decls        []string
	where        map[string]string // r0, c1 or a2
	types        map[string]api.Type
	blocks       [][]string
	now          int
	instrs       int
	loops        [][2]int // where break and continue lead
	long         bool     // is a function longer than allowed?
}

// modelText returns the text of the module, and whether it is longer than allowed.
func modelText(p api.Program, faults ...int) (string, bool) {
	m := &model{p: p, faults: faults}
	var cells, arrays, funcs string
	for _, g := range p.Globals {
		if g.Type.Len > 0 {
			arrays += fmt.Sprintf("array %s%s;\n", g.Name, brackets(g.Type))
			m.arrays = append(m.arrays, g.Name)
		} else {
			cells += fmt.Sprintf("cell %s = %d;\n", g.Name, g.Init)
			m.cells = append(m.cells, g.Name)
		}
	}
	for i, f := range p.Funcs {
		funcs += m.function(i, f)
	}
	return cells + arrays + "main main;\n" + funcs, m.long
}

func brackets(t api.Type) string {
	s := fmt.Sprintf("[%d]", t.Len)
	if t.Kind == api.TySmall {
		s += " small"
	}
	return s
}

func (m *model) function(i int, f api.Func) string {
	m.params, m.regs, m.decls, m.blocks, m.now, m.instrs, m.loops = 0, 0, nil, [][]string{nil}, 0, 0, nil
	m.where, m.types = map[string]string{}, map[string]api.Type{}
	for _, g := range m.p.Globals {
		m.types[g.Name] = g.Type
	}
	for c, name := range m.cells {
		m.where[name] = fmt.Sprint("c", c)
	}
	for _, p := range f.Params {
		m.types[p.Name] = p.Type
		if p.Type.Len > 0 {
			m.where[p.Name] = m.array("param" + brackets(p.Type))
		} else {
			m.where[p.Name] = m.reg()
			m.params++
		}
	}
	named := m.named(i)
	for _, name := range m.arrays {
		if slices.Contains(named, name) {
			m.where[name] = m.array("global " + name)
		}
	}
	for k, s := range f.Body {
		m.stmt([]int{i, k}, s)
	}
	head := fmt.Sprintf("func %s params %d regs %d", f.Name, m.params, m.regs)
	if f.Result != 0 {
		head += " result"
		m.end("return 0")
	} else {
		m.end("return")
	}
	m.long = m.long || len(m.blocks) > 60 || m.instrs > 400 || m.regs > 300 || len(m.decls) > 20
	return head + " {\n" + m.body() + "}\n"
}

func (m *model) body() string {
	text := ""
	for _, d := range m.decls {
		text += "\t" + d + ";\n"
	}
	for i, lines := range m.blocks {
		text += fmt.Sprintf("\tb%d:\n", i)
		for _, line := range lines {
			text += "\t\t" + line + ";\n"
		}
	}
	return text
}

// named returns the names by which a function names variables, by the places of its nodes.
func (m *model) named(f int) []string {
	var names []string
	paths, _ := syntax.Places(m.p)
	for _, path := range paths {
		n, _ := syntax.At(m.p, path)
		if path[0] == f && (n.Expr.Kind == api.ExName || n.Expr.Kind == api.ExIndex) {
			names = append(names, n.Expr.Name)
		}
		if path[0] == f && n.Stmt.Kind == api.StPut {
			names = append(names, n.Stmt.Name)
		}
	}
	return names
}

func (m *model) array(decl string) string {
	m.decls = append(m.decls, decl)
	return fmt.Sprint("a", len(m.decls)-1)
}

func (m *model) reg() string {
	m.regs++
	return fmt.Sprint("r", m.regs-1)
}

// fresh returns the numbers of new blocks.
func (m *model) fresh(number int) []int {
	var list []int
	for range number {
		list = append(list, len(m.blocks))
		m.blocks = append(m.blocks, nil)
	}
	return list
}

func (m *model) line(format string, args ...any) {
	m.instrs++
	m.end(format, args...)
}

func (m *model) end(format string, args ...any) {
	m.blocks[m.now] = append(m.blocks[m.now], fmt.Sprintf(format, args...))
}

func (m *model) enter(block int) { m.now = block }

func (m *model) on(fault int) bool { return slices.Contains(m.faults, fault) }

func join(path []int, more ...int) []int { return append(slices.Clone(path), more...) }

func (m *model) stmts(path []int, part int, list []api.Stmt) {
	for k, s := range list {
		m.stmt(join(path, part, k), s)
	}
}

func (m *model) stmt(path []int, s api.Stmt) {
	var v []string
	if s.Kind != api.StWhile && s.Kind != api.StCall {
		for k, x := range s.Exprs {
			v = append(v, m.expr(join(path, 2+k), x))
		}
	}
	switch s.Kind {
	case api.StLet:
		m.types[s.Name] = s.Type
		if s.Type.Len > 0 {
			m.where[s.Name] = m.array("local" + brackets(s.Type))
			for i := range s.Type.Len {
				m.line("store %s[%d] = 0", m.where[s.Name], i)
			}
			return
		}
		m.where[s.Name] = m.reg()
		m.line("%s = %s", m.where[s.Name], append(v, "0")[0])
	case api.StSet:
		if to := m.where[s.Name]; to[0] == 'c' {
			m.line("put %s = %s", to, v[0])
		} else {
			m.line("%s = %s", to, v[0])
		}
	case api.StPut:
		m.check(v[0], s.Name)
		m.line("store %s[%s] = %s", m.where[s.Name], v[0], v[1])
	case api.StCall:
		m.line("%s", m.call(join(path, 2), s.Exprs[0]))
	case api.StPrint:
		m.line("print %s", v[0])
	case api.StIf:
		m.choice(path, s, v[0])
	case api.StWhile:
		m.while(path, s)
	case api.StFor:
		m.count(path, s, v)
	default:
		m.leave(s, v)
	}
}

func (m *model) leave(s api.Stmt, v []string) {
	switch s.Kind {
	case api.StTrap:
		m.end("trap")
	case api.StBreak:
		m.end("jump b%d", m.loops[len(m.loops)-1][0])
	case api.StContinue:
		m.end("jump b%d", m.loops[len(m.loops)-1][1])
	case api.StReturn:
		m.end("%s", strings.TrimSpace("return "+strings.Join(v, "")))
	}
	m.enter(m.fresh(1)[0])
}

func (m *model) choice(path []int, s api.Stmt, c string) {
	if len(s.Else) == 0 {
		b := m.fresh(2)
		m.end("branch %s, b%d, b%d", c, b[0], b[1])
		m.enter(b[0])
		m.stmts(path, 0, s.Body)
		m.end("jump b%d", b[1])
		m.enter(b[1])
		return
	}
	b := m.fresh(3)
	m.end("branch %s, b%d, b%d", c, b[0], b[1])
	for part, list := range [][]api.Stmt{s.Body, s.Else} {
		m.enter(b[part])
		m.stmts(path, part, list)
		m.end("jump b%d", b[2])
	}
	m.enter(b[2])
}

func (m *model) while(path []int, s api.Stmt) {
	n := m.reg()
	m.line("%s = 0", n)
	b := m.fresh(4)
	m.end("jump b%d", b[0])
	m.enter(b[0])
	m.end("branch %s, b%d, b%d", m.expr(join(path, 2), s.Exprs[0]), b[1], b[3])
	m.enter(b[1])
	t := m.reg()
	m.line("%s = lt %s, %d", t, n, s.Bound)
	m.end("branch %s, b%d, b%d", t, b[2], b[3])
	m.enter(b[2])
	m.line("%s = add %s, 1", n, n)
	m.loops = append(m.loops, [2]int{b[3], b[0]})
	m.stmts(path, 0, s.Body)
	m.loops = m.loops[:len(m.loops)-1]
	m.end("jump b%d", b[0])
	m.enter(b[3])
}

func (m *model) count(path []int, s api.Stmt, bounds []string) {
	v := m.reg()
	m.where[s.Name], m.types[s.Name] = v, api.Type{Kind: api.TyInt}
	m.line("%s = %s", v, bounds[0])
	h := m.reg()
	m.line("%s = %s", h, bounds[1])
	b := m.fresh(4)
	m.end("jump b%d", b[0])
	m.enter(b[0])
	t := m.reg()
	op := "lt"
	if m.on(api.FtLower2) {
		op = "le"
	}
	m.line("%s = %s %s, %s", t, op, v, h)
	m.end("branch %s, b%d, b%d", t, b[1], b[3])
	m.enter(b[1])
	m.loops = append(m.loops, [2]int{b[3], b[2]})
	m.stmts(path, 0, s.Body)
	m.loops = m.loops[:len(m.loops)-1]
	m.end("jump b%d", b[2])
	m.enter(b[2])
	m.line("%s = add %s, 1", v, v)
	m.end("jump b%d", b[0])
	m.enter(b[3])
}

func (m *model) check(index, array string) {
	if !m.on(api.FtLower3) {
		m.line("check %s, %d", index, m.types[array].Len)
	}
}

// small reports whether the expression at a path is of small.
func (m *model) small(path []int) bool {
	typ, _ := types.TypeOf(m.p, path)
	return typ.Kind == api.TySmall
}

// to makes an instruction for a new register.
func (m *model) to(format string, args ...any) string {
	t := m.reg()
	m.line("%s = %s", t, fmt.Sprintf(format, args...))
	return t
}

func (m *model) expr(path []int, x api.Expr) string {
	arg := func(k int) string { return m.expr(join(path, k), x.Args[k]) }
	switch x.Kind {
	case api.ExName:
		if at := m.where[x.Name]; at[0] == 'r' {
			return at
		}
		return m.to("get %s", m.where[x.Name])
	case api.ExIndex:
		i := arg(0)
		m.check(i, x.Name)
		return m.to("load %s[%s]", m.where[x.Name], i)
	case api.ExCall:
		c := m.call(path, x)
		return m.to("%s", c)
	case api.ExToInt:
		return arg(0)
	case api.ExToSmall:
		return m.to("and %s, 255", arg(0))
	case api.ExUnary:
		return m.unary(path, x.Op, arg(0))
	case api.ExBinary:
		if x.Op == api.BiLand || x.Op == api.BiLor {
			return m.shorted(path, x)
		}
		a := arg(0)
		return m.binary(path, x.Op, a, arg(1))
	}
	return fmt.Sprint(x.Int)
}

func (m *model) call(path []int, x api.Expr) string {
	var args, arrays []string
	for k, arg := range x.Args {
		if at := m.where[arg.Name]; arg.Kind == api.ExName && at[0] == 'a' {
			arrays = append(arrays, at)
		} else {
			args = append(args, m.expr(join(path, k), arg))
		}
	}
	list := strings.Join(args, ", ")
	if len(arrays) > 0 {
		list += "; " + strings.Join(arrays, ", ")
	}
	return "call " + x.Name + "(" + list + ")"
}

func (m *model) unary(path []int, op int, a string) string {
	switch {
	case op == api.UnNot:
		return m.to("xor %s, 1", a)
	case op == api.UnComp && m.small(path):
		return m.to("xor %s, 255", a)
	case op == api.UnComp:
		return m.to("xor %s, -1", a)
	}
	t := m.to("sub 0, %s", a)
	if m.small(path) {
		return m.to("and %s, 255", t)
	}
	return t
}

func (m *model) binary(path []int, op int, a, b string) string {
	name := map[int]string{
		api.BiMul: "mul", api.BiDiv: "div", api.BiRem: "rem", api.BiAdd: "add", api.BiSub: "sub", api.BiShl: "shl", api.BiShr: "shr",
		api.BiAnd: "and", api.BiXor: "xor", api.BiOr: "or", api.BiEq: "eq", api.BiNe: "ne", api.BiLt: "lt", api.BiLe: "le",
	}[op]
	switch op {
	case api.BiGt:
		return m.to("lt %s, %s", b, a)
	case api.BiGe:
		return m.to("le %s, %s", b, a)
	}
	t := m.to("%s %s, %s", name, a, b)
	wraps := strings.Contains("add sub mul shl", name)
	if wraps && m.small(path) && !(op == api.BiAdd && m.on(api.FtLower1)) {
		return m.to("and %s, 255", t)
	}
	return t
}

func (m *model) shorted(path []int, x api.Expr) string {
	t := m.to("%s", m.expr(join(path, 0), x.Args[0]))
	b := m.fresh(2)
	if x.Op == api.BiLand {
		m.end("branch %s, b%d, b%d", t, b[0], b[1])
	} else {
		m.end("branch %s, b%d, b%d", t, b[1], b[0])
	}
	m.enter(b[0])
	m.line("%s = %s", t, m.expr(join(path, 1), x.Args[1]))
	m.end("jump b%d", b[1])
	m.enter(b[1])
	return t
}
