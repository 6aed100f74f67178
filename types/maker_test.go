package types_test

import (
	"math/rand/v2"
	"slices"
	"testing"

	"cupel/api"
	"cupel/syntax"
)

// maker makes programs that have no flaw but for its slips, and for variables that are read before they have a value.
type maker struct {
	*rand.Rand
	slips   int // of so many choices one is wrong; 0: none
	p       api.Program
	f       int   // the function that is being made
	rank    []int // a function calls those of lower ranks
	visible []api.Known
	loops   int
	left    int // nodes that may still be made, about
}

func makeProgram(seed uint64) api.Program {
	m := &maker{Rand: rand.New(rand.NewPCG(seed, 2))}
	m.slips = []int{0, 0, 300, 40}[m.IntN(4)]
	m.left = 20 + m.IntN(100)
	var globals []api.Known
	for range m.IntN(5) {
		m.visible = globals
		g := api.Global{Name: m.newName(), Type: m.typ()}
		m.p.Globals = append(m.p.Globals, g)
		globals = append(globals, api.Known{Name: g.Name, Type: g.Type, Where: api.KnGlobal, Set: true})
	}
	m.headers(globals)
	m.rank = m.Perm(len(m.p.Funcs))
	for i := range m.p.Funcs {
		f := &m.p.Funcs[i]
		m.f, m.visible = i, slices.Clone(globals)
		for _, p := range f.Params {
			m.visible = append(m.visible, api.Known{Name: p.Name, Type: p.Type, Where: api.KnParam, Set: true})
		}
		f.Body = m.block(1)
		if f.Result != 0 && !m.slip() && m.IntN(40) > 0 {
			f.Body = append(f.Body, api.Stmt{Kind: api.StReturn, Exprs: []api.Expr{m.expr(f.Result, 1)}})
		}
	}
	return m.p
}

// headers makes functions without their bodies.
func (m *maker) headers(globals []api.Known) {
	names := []string{"main", "a", "b", "f", "g", "h"}
	m.Shuffle(len(names), func(i, j int) { names[i], names[j] = names[j], names[i] })
	for _, name := range names[:1+m.IntN(len(names))] {
		f := api.Func{Name: name}
		if name != "main" || m.slip() {
			f.Result = m.IntN(4)
			m.visible = slices.Clone(globals)
			for range m.IntN(4) {
				p := api.Param{Name: m.newName(), Type: m.typ()}
				f.Params = append(f.Params, p)
				m.visible = append(m.visible, api.Known{Name: p.Name})
			}
		}
		m.p.Funcs = append(m.p.Funcs, f)
	}
	if !slices.Contains(names[:len(m.p.Funcs)], "main") && m.IntN(20) > 0 || m.slip() {
		m.p.Funcs = append(m.p.Funcs, api.Func{Name: "main"})
	}
}

func (m *maker) slip() bool { return m.slips > 0 && m.IntN(m.slips) == 0 }

// newName returns one of few names, so that they come again in other blocks.
func (m *maker) newName() string {
	names := []string{"a", "b", "c", "d", "e", "f", "main", "x", "y", "z", "x1", "x2", "x3", "x4", "x5"}
	for range 50 {
		name := names[m.IntN(len(names))]
		if _, visible := find(m.visible, name); !visible || m.slip() {
			return name
		}
	}
	return "w"
}

func (m *maker) typ() api.Type {
	t := api.Type{Kind: 1 + m.IntN(3)}
	if t.Kind != api.TyBool && m.IntN(2) == 0 {
		t.Len = []int{1, 1, 1, 1, 2, 16}[m.IntN(6)]
	}
	return t
}

func (m *maker) block(depth int, more ...api.Known) []api.Stmt {
	outside := slices.Clone(m.visible)
	m.visible = append(m.visible, more...)
	var list []api.Stmt
	for m.left > 0 && depth < 6 && m.IntN(6) > 0 {
		list = append(list, m.stmt(depth))
	}
	m.visible = outside
	return list
}

// pick returns a visible variable that suits, or none.
func (m *maker) pick(suits func(k api.Known) bool) (api.Known, bool) {
	var list []api.Known
	for _, k := range m.visible {
		if suits(k) || m.slip() && m.slip() {
			list = append(list, k)
		}
	}
	if len(list) == 0 {
		return api.Known{Name: "q", Type: api.Type{Kind: api.TyInt}}, m.slip()
	}
	return list[m.IntN(len(list))], true
}

func (m *maker) stmt(depth int) api.Stmt {
	m.left--
	if m.slips > 0 && m.IntN(m.slips/10) == 0 {
		return m.wrong(depth)
	}
	switch m.IntN(14) {
	case 0, 1, 2:
		return m.let(depth)
	case 3, 4, 5:
		if k, ok := m.pick(func(k api.Known) bool { return k.Type.Len == 0 && k.Where != api.KnFor }); ok {
			return api.Stmt{Kind: api.StSet, Name: k.Name, Exprs: []api.Expr{m.expr(k.Type.Kind, depth+1)}}
		}
	case 6:
		if k, ok := m.pick(func(k api.Known) bool { return k.Type.Len > 0 }); ok {
			return api.Stmt{Kind: api.StPut, Name: k.Name, Exprs: []api.Expr{m.expr(api.TyInt, depth+1), m.expr(k.Type.Kind, depth+1)}}
		}
	case 7:
		if x, ok := m.call(func(f api.Func) bool { return true }, depth+1); ok {
			return api.Stmt{Kind: api.StCall, Exprs: []api.Expr{x}}
		}
	case 8, 9, 10, 11:
		return m.compound(depth)
	case 12:
		if m.IntN(2) == 0 {
			return m.leave(depth)
		}
	}
	return api.Stmt{Kind: api.StPrint, Exprs: []api.Expr{m.expr(1+m.IntN(3), depth+1)}}
}

// wrong makes a statement that is often wrong where it stands.
func (m *maker) wrong(depth int) api.Stmt {
	k, _ := m.pick(func(k api.Known) bool { return k.Where == api.KnFor || m.IntN(5) == 0 })
	value := m.expr(max(k.Type.Kind, 1), depth+1)
	f := m.p.Funcs[m.IntN(len(m.p.Funcs))]
	call := api.Expr{Kind: api.ExCall, Name: f.Name}
	for _, p := range f.Params {
		a, _ := m.pick(func(k api.Known) bool { return k.Type == p.Type })
		call.Args = append(call.Args, api.Expr{Kind: api.ExName, Name: a.Name})
	}
	if m.IntN(3) == 0 {
		call.Args = call.Args[:m.IntN(len(call.Args)+1)]
	}
	switch m.IntN(9) {
	case 0:
		return api.Stmt{Kind: api.StBreak}
	case 1:
		return api.Stmt{Kind: api.StContinue}
	case 2:
		return api.Stmt{Kind: api.StReturn}
	case 3:
		return api.Stmt{Kind: api.StReturn, Exprs: []api.Expr{value}}
	case 4:
		return api.Stmt{Kind: api.StFor, Name: k.Name, Exprs: []api.Expr{value, value}}
	case 5:
		return api.Stmt{Kind: api.StPrint, Exprs: []api.Expr{call}}
	case 6:
		return api.Stmt{Kind: api.StCall, Exprs: []api.Expr{call}}
	}
	return api.Stmt{Kind: api.StSet, Name: k.Name, Exprs: []api.Expr{value}}
}

func (m *maker) let(depth int) api.Stmt {
	s := api.Stmt{Kind: api.StLet, Name: m.newName(), Type: m.typ()}
	if s.Type.Len == 0 && m.IntN(3) > 0 {
		s.Exprs = []api.Expr{m.expr(s.Type.Kind, depth+1)}
	}
	m.visible = append(m.visible, api.Known{Name: s.Name, Type: s.Type, Where: api.KnLocal, Set: len(s.Exprs) > 0})
	return s
}

func (m *maker) compound(depth int) api.Stmt {
	switch m.IntN(4) {
	case 0:
		m.loops++
		defer func() { m.loops-- }()
		return api.Stmt{Kind: api.StWhile, Exprs: []api.Expr{m.expr(api.TyBool, depth+1)}, Bound: 3, Body: m.block(depth + 1)}
	case 1:
		m.loops++
		defer func() { m.loops-- }()
		s := api.Stmt{Kind: api.StFor, Name: m.newName(), Exprs: []api.Expr{m.expr(api.TyInt, depth+1), m.expr(api.TyInt, depth+1)}}
		s.Body = m.block(depth+1, api.Known{Name: s.Name, Type: api.Type{Kind: api.TyInt}, Where: api.KnFor, Set: true})
		return s
	}
	return api.Stmt{Kind: api.StIf, Exprs: []api.Expr{m.expr(api.TyBool, depth+1)}, Body: m.block(depth + 1), Else: m.block(depth + 1)}
}

func (m *maker) leave(depth int) api.Stmt {
	if (m.loops > 0 || m.slip()) && m.IntN(2) == 0 {
		return api.Stmt{Kind: []int{api.StBreak, api.StContinue}[m.IntN(2)]}
	}
	if m.IntN(3) == 0 {
		return api.Stmt{Kind: api.StTrap}
	}
	s := api.Stmt{Kind: api.StReturn}
	if result := m.p.Funcs[m.f].Result; (result != 0) != m.slip() {
		s.Exprs = []api.Expr{m.expr(max(result, 1), depth+1)}
	}
	return s
}

// call calls a function that suits, if there are arrays for its parameters.
func (m *maker) call(suits func(f api.Func) bool, depth int) (api.Expr, bool) {
	i := m.IntN(len(m.p.Funcs))
	f := m.p.Funcs[i]
	if !suits(f) && !m.slip() || m.rank[i] >= m.rank[m.f] && !m.slip() || depth > 6 {
		return api.Expr{}, false
	}
	x := api.Expr{Kind: api.ExCall, Name: f.Name}
	for _, p := range f.Params {
		if p.Type.Len == 0 {
			x.Args = append(x.Args, m.expr(p.Type.Kind, depth+1))
			continue
		}
		k, ok := m.pick(func(k api.Known) bool { return k.Type == p.Type })
		if !ok {
			return api.Expr{}, false
		}
		x.Args = append(x.Args, api.Expr{Kind: api.ExName, Name: k.Name})
	}
	if m.slip() {
		x.Args = append(x.Args, api.Expr{Kind: api.ExInt})
	}
	return x, true
}

func (m *maker) expr(kind, depth int) api.Expr {
	m.left--
	if m.slip() && m.slip() {
		kind = 1 + m.IntN(3)
	}
	if depth < 8 && m.left > 0 {
		switch m.IntN(11) {
		case 0, 1:
			return m.operation(kind, depth)
		case 2, 10:
			if x, ok := m.call(func(f api.Func) bool { return f.Result == kind }, depth); ok {
				return x
			}
		case 3:
			if k, ok := m.pick(func(k api.Known) bool { return k.Type.Kind == kind && k.Type.Len > 0 }); ok {
				return api.Expr{Kind: api.ExIndex, Name: k.Name, Args: []api.Expr{m.expr(api.TyInt, depth+1)}}
			}
		case 4, 5, 6, 7:
			if k, ok := m.pick(func(k api.Known) bool {
				return k.Type == api.Type{Kind: kind} && (k.Set || m.IntN(25) == 0)
			}); ok {
				return api.Expr{Kind: api.ExName, Name: k.Name}
			}
		}
	}
	return api.Expr{Kind: kind, Int: int64(m.IntN(2))}
}

func (m *maker) operation(kind, depth int) api.Expr {
	arg := func(kind int) api.Expr { return m.expr(kind, depth+1) }
	unary := api.Expr{Kind: api.ExUnary, Op: []int{api.UnNeg, api.UnComp}[m.IntN(2)]}
	binary := api.Expr{Kind: api.ExBinary, Op: 1 + m.IntN(api.BiOr)}
	operands := kind
	if kind == api.TyBool {
		unary.Op, binary.Op = api.UnNot, api.BiEq+m.IntN(api.BiLor-api.BiEq+1)
		operands = []int{api.TyInt, api.TySmall}[m.IntN(2)]
		if binary.Op >= api.BiLand || binary.Op <= api.BiNe && m.IntN(2) == 0 {
			operands = api.TyBool
		}
	}
	switch m.IntN(5) {
	case 0:
		unary.Args = []api.Expr{arg(kind)}
		return unary
	case 1:
		switch kind {
		case api.TyInt:
			return api.Expr{Kind: api.ExToInt, Args: []api.Expr{arg([]int{api.TySmall, api.TyBool}[m.IntN(2)])}}
		case api.TySmall:
			return api.Expr{Kind: api.ExToSmall, Args: []api.Expr{arg(api.TyInt)}}
		}
	}
	binary.Args = []api.Expr{arg(operands), arg(operands)}
	return binary
}

// programs calls look with many programs: many without a flaw, and some with each flaw.
func programs(t *testing.T, number int, look func(m model, code int)) {
	t.Helper()
	seen := map[int]int{}
	for seed := range uint64(number) {
		p := makeProgram(seed)
		if e := syntax.Check(p); e == api.ErrLong {
			continue
		} else if e != api.OK {
			t.Fatalf("program %d: error %d", seed, e)
		}
		m := newModel(p)
		code := m.flaw().Code
		seen[code]++
		look(m, code)
	}
	for code := range api.FlMain + 1 {
		if seen[code] < 2 || code == 0 && seen[code] < 100 {
			t.Errorf("%d programs with the flaw %d", seen[code], code)
		}
	}
	t.Log(seen)
}
