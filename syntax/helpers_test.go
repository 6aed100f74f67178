package syntax_test

import (
	"math"
	"math/rand/v2"
	"strconv"
	"strings"
	"testing"

	"cupel/api"
	"cupel/syntax"
)

// whole has every kind of statement and expression in it, and is canonical.
const whole = `global g: small = 5s;
global b: bool = true;
global a: int[3];
global n: int = -7;
global z: small;
func f(x: int, y: small[4], q_9: bool): int {
	let w: int;
	let v: bool = !b;
	let u: small[2];
	if x < 3 {
		w = ~x;
	} else {
		y[x] = 2s;
		break;
	}
	while true upto 9 {
		continue;
	}
	for i in 0 .. x - 1 {
		f(i, y, v && false);
		trap;
	}
	return w;
}
func main() {
	print f(a[2], u, 1s == small(n)) + int(b);
	return;
}
`

func read(t *testing.T, text string) api.Program {
	t.Helper()
	p, at, e := syntax.Parse(text)
	if at != 0 || e != api.OK {
		t.Fatalf("Parse(%q): error %d at %d", text, e, at)
	}
	return p
}

func text(t *testing.T, p api.Program) string {
	t.Helper()
	s, e := syntax.Print(p)
	if e != api.OK {
		t.Fatalf("Print: error %d", e)
	}
	return s
}

// body is a program whose only function, main, has these statements.
func body(list ...api.Stmt) api.Program {
	return api.Program{Funcs: []api.Func{{Name: "main", Body: list}}}
}

func number(n int64) api.Expr { return api.Expr{Kind: api.ExInt, Int: n} }

func name(s string) api.Expr { return api.Expr{Kind: api.ExName, Name: s} }

func printing(x api.Expr) api.Program {
	return body(api.Stmt{Kind: api.StPrint, Exprs: []api.Expr{x}})
}

func negated(times int) api.Expr {
	x := number(0)
	for range times {
		x = api.Expr{Kind: api.ExUnary, Op: api.UnNeg, Args: []api.Expr{x}}
	}
	return x
}

// endlessExpr contains itself.
func endlessExpr() api.Expr {
	args := make([]api.Expr, 1)
	args[0] = api.Expr{Kind: api.ExUnary, Op: api.UnNeg, Args: args}
	return args[0]
}

// endlessStmt contains itself.
func endlessStmt() api.Stmt {
	list := make([]api.Stmt, 1)
	list[0] = api.Stmt{Kind: api.StIf, Exprs: []api.Expr{name("c")}, Body: list, Else: list}
	return list[0]
}

// maker makes programs that are well-formed, whatever their names and types mean.
type maker struct {
	*rand.Rand
	left int // nodes that may still be made, about
}

func newMaker(seed uint64) *maker { return &maker{Rand: rand.New(rand.NewPCG(seed, 1))} }

func (m *maker) program(nodes int) api.Program {
	m.left = nodes
	var p api.Program
	for range m.IntN(api.MaxGlobals + 1) {
		p.Globals = append(p.Globals, m.global())
	}
	for range 1 + m.IntN(api.MaxFuncs) {
		f := api.Func{Name: m.name(), Result: m.IntN(4)}
		for range m.IntN(api.MaxParams + 1) {
			f.Params = append(f.Params, api.Param{Name: m.name(), Type: m.typ()})
		}
		f.Body = m.block(1)
		p.Funcs = append(p.Funcs, f)
	}
	return p
}

func (m *maker) name() string {
	names := []string{"a", "b", "x1", "I", "Z_9", "iff", "int8", "s", "abcdefghijklmnop"}
	return names[m.IntN(len(names))]
}

func (m *maker) typ() api.Type {
	t := api.Type{Kind: 1 + m.IntN(3)}
	if t.Kind != api.TyBool && m.IntN(3) == 0 {
		t.Len = 1 + m.IntN(api.MaxArray)
	}
	return t
}

func (m *maker) global() api.Global {
	g := api.Global{Name: m.name(), Type: m.typ()}
	switch {
	case g.Type.Len > 0:
	case g.Type.Kind == api.TyInt:
		g.Init = []int64{0, 1, -1, math.MaxInt64, -math.MaxInt64, m.Int64()}[m.IntN(6)]
	case g.Type.Kind == api.TySmall:
		g.Init = int64(m.IntN(256))
	default:
		g.Init = int64(m.IntN(2))
	}
	return g
}

func (m *maker) block(depth int) []api.Stmt {
	var list []api.Stmt
	for m.left > 0 && depth < 15 && m.IntN(4) > 0 {
		list = append(list, m.stmt(depth))
	}
	return list
}

func (m *maker) stmt(depth int) api.Stmt {
	m.left--
	s := api.Stmt{Kind: 1 + m.IntN(api.StReturn)}
	exprs := 1
	switch s.Kind {
	case api.StLet:
		s.Name, s.Type = m.name(), m.typ()
		exprs = m.IntN(2)
		if s.Type.Len > 0 {
			exprs = 0
		}
	case api.StSet:
		s.Name = m.name()
	case api.StPut:
		s.Name, exprs = m.name(), 2
	case api.StCall:
		s.Exprs, exprs = []api.Expr{m.exprOf(api.ExCall, depth+1)}, 0
	case api.StIf:
		s.Body, s.Else = m.block(depth+1), m.block(depth+1)
	case api.StWhile:
		s.Bound, s.Body = 1+m.IntN(api.MaxBound), m.block(depth+1)
	case api.StFor:
		s.Name, s.Body, exprs = m.name(), m.block(depth+1), 2
	case api.StTrap, api.StBreak, api.StContinue:
		exprs = 0
	case api.StReturn:
		exprs = m.IntN(2)
	}
	for range exprs {
		s.Exprs = append(s.Exprs, m.expr(depth+1))
	}
	return s
}

func (m *maker) expr(depth int) api.Expr {
	kinds := api.ExToSmall
	if depth >= api.MaxNest-1 || m.left <= 0 {
		kinds = api.ExName
	}
	return m.exprOf(1+m.IntN(kinds), depth)
}

func (m *maker) exprOf(kind, depth int) api.Expr {
	m.left--
	x := api.Expr{Kind: kind}
	args := 1
	switch kind {
	case api.ExInt:
		x.Int, args = []int64{0, 1, 10, math.MaxInt64, m.Int64()}[m.IntN(5)], 0
	case api.ExSmall:
		x.Int, args = int64(m.IntN(256)), 0
	case api.ExBool:
		x.Int, args = int64(m.IntN(2)), 0
	case api.ExName:
		x.Name, args = m.name(), 0
	case api.ExIndex:
		x.Name = m.name()
	case api.ExCall:
		x.Name, args = m.name(), m.IntN(api.MaxParams+1)
	case api.ExUnary:
		x.Op = 1 + m.IntN(api.UnComp)
	case api.ExBinary:
		x.Op, args = 1+m.IntN(api.BiLor), 2
	}
	for range args {
		x.Args = append(x.Args, m.expr(depth+1))
	}
	return x
}

// programs calls f with programs of many sizes that are small and well-formed.
func programs(t *testing.T, f func(p api.Program)) {
	t.Helper()
	made := 0
	for seed := range uint64(600) {
		m := newMaker(seed)
		p := m.program(m.IntN(200))
		if e := syntax.Check(p); e == api.ErrLong {
			continue
		} else if e != api.OK {
			t.Fatalf("program %d: error %d", seed, e)
		}
		made++
		f(p)
	}
	if made < 400 {
		t.Fatalf("%d programs", made)
	}
}

// spoil writes into all memory of a program.
func spoil(p api.Program) {
	for i := range p.Globals {
		p.Globals[i] = api.Global{Name: "?"}
	}
	for i := range p.Funcs {
		spoilFunc(p.Funcs[i])
		p.Funcs[i] = api.Func{Name: "?"}
	}
}

func spoilFunc(f api.Func) {
	for i := range f.Params {
		f.Params[i].Name = "?"
	}
	spoilStmts(f.Body)
}

func spoilStmts(list []api.Stmt) {
	for i := range list {
		spoilExprs(list[i].Exprs)
		spoilStmts(list[i].Body)
		spoilStmts(list[i].Else)
		list[i] = api.Stmt{Name: "?"}
	}
}

func spoilExprs(list []api.Expr) {
	for i := range list {
		spoilExprs(list[i].Args)
		list[i] = api.Expr{Name: "?"}
	}
}

func pathText(path []int) string {
	var parts []string
	for _, n := range path {
		parts = append(parts, strconv.Itoa(n))
	}
	return "[" + strings.Join(parts, " ") + "]"
}
