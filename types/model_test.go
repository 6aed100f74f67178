package types_test

import (
	"slices"

	"cupel/api"
	"cupel/syntax"
)

// model answers what the chapter defines, for each node on its own: it goes down from the top of the program to the node each time.
type model struct {
	p     api.Program
	nodes []placed // in order
}

// placed is a node with its path.
type placed struct {
	api.Node
	path []int
}

func newModel(p api.Program) model {
	m := model{p: p}
	paths, _ := syntax.Places(p)
	for _, path := range paths {
		n, _ := syntax.At(p, path)
		m.nodes = append(m.nodes, placed{n, path})
	}
	return m
}

// in returns the nodes in a function.
func (m model) in(f int) []placed {
	var out []placed
	for _, n := range m.nodes {
		if n.path[0] == f {
			out = append(out, n)
		}
	}
	return out
}

func (m model) function(name string) int {
	return slices.IndexFunc(m.p.Funcs, func(f api.Func) bool { return f.Name == name })
}

func find(list []api.Known, name string) (api.Known, bool) {
	i := slices.IndexFunc(list, func(k api.Known) bool { return k.Name == name })
	if i < 0 {
		return api.Known{}, false
	}
	return list[i], true
}

// values says of names whether they have a value, those of scalar locals.
type values func(name string) bool

func everything(string) bool { return true }

func nothing(string) bool { return false }

func (v values) with(name string, value bool) values {
	return func(n string) bool {
		if n == name {
			return value
		}
		return v(n)
	}
}

func (v values) and(w values) values {
	return func(n string) bool { return v(n) && w(n) }
}

func (v values) afterAll(list []api.Stmt) values {
	for _, s := range list {
		v = v.after(s)
	}
	return v
}

func (v values) after(s api.Stmt) values {
	switch {
	case !endsNormally(s):
		return everything
	case s.Kind == api.StLet && s.Type.Len == 0:
		return v.with(s.Name, len(s.Exprs) > 0)
	case s.Kind == api.StSet:
		return v.with(s.Name, true)
	case s.Kind == api.StIf:
		return v.afterAll(s.Body).and(v.afterAll(s.Else))
	}
	return v
}

func endsNormally(s api.Stmt) bool {
	leaves := func(s api.Stmt) bool { return !endsNormally(s) }
	if s.Kind == api.StIf {
		return !(len(s.Else) > 0 && slices.ContainsFunc(s.Body, leaves) && slices.ContainsFunc(s.Else, leaves))
	}
	return !slices.Contains([]int{api.StReturn, api.StTrap, api.StBreak, api.StContinue}, s.Kind)
}

// at is what there is at the place of a statement, or after the last one of a block.
type at struct {
	visible []api.Known
	f       api.Func
	inLoop  bool
	stmt    api.Stmt // with Kind 0 after the last one
	rest    []int    // the path from the statement on
}

// place follows a path as far as statements go.
func (m model) place(path []int) at {
	a := at{f: m.p.Funcs[path[0]], rest: path[1:]}
	for _, g := range m.p.Globals {
		a.visible = append(a.visible, api.Known{Name: g.Name, Type: g.Type, Where: api.KnGlobal, Set: true})
	}
	for _, p := range a.f.Params {
		a.visible = append(a.visible, api.Known{Name: p.Name, Type: p.Type, Where: api.KnParam, Set: true})
	}
	list, v := a.f.Body, values(nothing)
	for {
		for _, s := range list[:a.rest[0]] {
			v = v.after(s)
			if s.Kind == api.StLet {
				a.visible = append(a.visible, api.Known{Name: s.Name, Type: s.Type, Where: api.KnLocal})
			}
		}
		a.stmt = append(slices.Clone(list), api.Stmt{})[a.rest[0]]
		a.rest = a.rest[1:]
		if len(a.rest) == 0 || a.rest[0] >= 2 {
			break
		}
		list = [][]api.Stmt{a.stmt.Body, a.stmt.Else}[a.rest[0]]
		a.rest = a.rest[1:]
		a.inLoop = a.inLoop || a.stmt.Kind != api.StIf
		if a.stmt.Kind == api.StFor {
			a.visible = append(a.visible, api.Known{Name: a.stmt.Name, Type: api.Type{Kind: api.TyInt}, Where: api.KnFor})
		}
	}
	for i, k := range a.visible {
		a.visible[i].Set = k.Where != api.KnLocal || k.Type.Len > 0 || v(k.Name)
	}
	return a
}

// typeOf returns the type of an expression in which there is no flaw.
func (m model) typeOf(x api.Expr, visible []api.Known) api.Type {
	k, _ := find(visible, x.Name)
	switch x.Kind {
	case api.ExInt, api.ExToInt:
		return api.Type{Kind: api.TyInt}
	case api.ExSmall, api.ExToSmall:
		return api.Type{Kind: api.TySmall}
	case api.ExBool:
		return api.Type{Kind: api.TyBool}
	case api.ExName:
		return k.Type
	case api.ExIndex:
		return api.Type{Kind: k.Type.Kind}
	case api.ExCall:
		return api.Type{Kind: m.p.Funcs[m.function(x.Name)].Result}
	case api.ExBinary:
		if x.Op >= api.BiEq {
			return api.Type{Kind: api.TyBool}
		}
	}
	return m.typeOf(x.Args[0], visible)
}

// nodeFlaw returns the flaw of the expression or statement at a path, if those in it have none.
func (m model) nodeFlaw(path []int) int {
	a := m.place(path)
	if len(a.rest) == 0 {
		return m.stmtFlaw(a)
	}
	x, parent := a.stmt.Exprs[a.rest[0]-2], api.Expr{}
	for _, i := range a.rest[1:] {
		x, parent = x.Args[i], x
	}
	var args []string
	for _, y := range x.Args {
		args = append(args, showType(m.typeOf(y, a.visible)))
	}
	k, ok := find(a.visible, x.Name)
	switch {
	case x.Kind == api.ExCall:
		return m.callFlaw(x, args, a.stmt.Kind == api.StCall && len(a.rest) == 1)
	case (x.Kind == api.ExName || x.Kind == api.ExIndex) && !ok:
		return api.FlName
	case x.Kind == api.ExName && k.Type.Len > 0 && parent.Kind != api.ExCall, x.Kind == api.ExIndex && (k.Type.Len == 0 || args[0] != "int"), !fits(x, args):
		return api.FlType
	}
	return 0
}

func (m model) callFlaw(x api.Expr, args []string, statement bool) int {
	if m.function(x.Name) < 0 {
		return api.FlName
	}
	f := m.p.Funcs[m.function(x.Name)]
	var params []string
	for _, p := range f.Params {
		params = append(params, showType(p.Type))
	}
	if !slices.Equal(args, params) {
		return api.FlArgs
	}
	if f.Result == 0 && !statement {
		return api.FlResult
	}
	return 0
}

// fits reports whether the operands of an operator are of the right types.
func fits(x api.Expr, args []string) bool {
	numbers, all := []string{"int", "small"}, []string{"int", "small", "bool"}
	var may []string
	switch {
	case x.Kind == api.ExToInt:
		may = []string{"small", "bool"}
	case x.Kind == api.ExToSmall:
		may = []string{"int"}
	case x.Kind == api.ExUnary && x.Op == api.UnNot, x.Kind == api.ExBinary && x.Op >= api.BiLand:
		may = []string{"bool"}
	case x.Kind == api.ExBinary && (x.Op == api.BiEq || x.Op == api.BiNe):
		may = all
	case x.Kind == api.ExUnary, x.Kind == api.ExBinary:
		may = numbers
	default:
		return true
	}
	return slices.Contains(may, args[0]) && args[len(args)-1] == args[0]
}

func (m model) stmtFlaw(a at) int {
	k, known := find(a.visible, a.stmt.Name)
	var got []string
	for _, x := range a.stmt.Exprs {
		got = append(got, showType(m.typeOf(x, a.visible)))
	}
	named := a.stmt.Kind == api.StSet || a.stmt.Kind == api.StPut
	result := ""
	if a.f.Result != 0 {
		result = showType(api.Type{Kind: a.f.Result})
	}
	switch {
	case named && !known:
		return api.FlName
	case named && (a.stmt.Kind == api.StPut) != (k.Type.Len > 0), !slices.Equal(got, wanted(a.stmt, k, got)):
		return api.FlType
	case a.stmt.Kind == api.StSet && k.Where == api.KnFor:
		return api.FlFixed
	case (a.stmt.Kind == api.StLet || a.stmt.Kind == api.StFor) && known:
		return api.FlAgain
	case (a.stmt.Kind == api.StBreak || a.stmt.Kind == api.StContinue) && !a.inLoop:
		return api.FlLoop
	case a.stmt.Kind == api.StReturn && (len(got) == 0) != (result == ""):
		return api.FlResult
	case a.stmt.Kind == api.StReturn && len(got) > 0 && got[0] != result:
		return api.FlType
	}
	return 0
}

// wanted is the types that the Exprs of a statement must have; all others are right as they are.
func wanted(s api.Stmt, k api.Known, got []string) []string {
	element := showType(api.Type{Kind: k.Type.Kind})
	switch s.Kind {
	case api.StSet:
		return []string{element}
	case api.StPut:
		return []string{"int", element}
	case api.StIf, api.StWhile:
		return []string{"bool"}
	case api.StFor:
		return []string{"int", "int"}
	case api.StLet:
		return slices.Repeat([]string{showType(s.Type)}, len(got))
	}
	return got
}

// lookOrder is the paths of nodes in the order in which flaws are looked for.
func (m model) lookOrder() [][]int {
	var out [][]int
	var exprs func(list []api.Expr, path []int, first int)
	exprs = func(list []api.Expr, path []int, first int) {
		for i, x := range list {
			exprs(x.Args, under(path, first+i), 0)
			out = append(out, under(path, first+i))
		}
	}
	var block func(list []api.Stmt, path []int)
	block = func(list []api.Stmt, path []int) {
		for i, s := range list {
			exprs(s.Exprs, under(path, i), 2)
			out = append(out, under(path, i))
			block(s.Body, under(under(path, i), 0))
			block(s.Else, under(under(path, i), 1))
		}
	}
	for i, f := range m.p.Funcs {
		block(f.Body, []int{i})
	}
	return out
}

// called returns the functions that a function names, ascending.
func (m model) called(f int) []int {
	var out []int
	for _, n := range m.in(f) {
		if n.Expr.Kind == api.ExCall {
			out = append(out, m.function(n.Expr.Name))
		}
	}
	slices.Sort(out)
	return slices.Compact(out)
}

// reached returns the functions that a function reaches, ascending.
func (m model) reached(f int) []int {
	out := m.called(f)
	for i := 0; i < len(out); i++ {
		for _, g := range m.called(out[i]) {
			if !slices.Contains(out, g) {
				out = append(out, g)
			}
		}
	}
	slices.Sort(out)
	return out
}

func (m model) global(name string) int {
	return slices.IndexFunc(m.p.Globals, func(g api.Global) bool { return g.Name == name })
}

func (m model) uses(f int) (reads, writes []int) {
	for _, g := range append(m.reached(f), f) {
		for _, n := range m.in(g) {
			variable := m.global(n.Stmt.Name + n.Expr.Name)
			if n.Expr.Kind == api.ExCall || variable < 0 {
				continue
			}
			if n.Kind == api.NdExpr {
				reads = append(reads, variable)
			}
			if n.Kind == api.NdStmt || n.Expr.Kind == api.ExName && m.p.Globals[variable].Type.Len > 0 {
				writes = append(writes, variable)
			}
		}
	}
	slices.Sort(reads)
	slices.Sort(writes)
	return slices.Compact(reads), slices.Compact(writes)
}

// shares reports whether a call shares an array.
func (m model) shares(x api.Expr, visible []api.Known) bool {
	reads, writes := m.uses(m.function(x.Name))
	for i, a := range x.Args {
		k, _ := find(visible, a.Name)
		if a.Kind != api.ExName || k.Type.Len == 0 {
			continue
		}
		again := slices.ContainsFunc(x.Args[:i], func(b api.Expr) bool { return b.Kind == api.ExName && b.Name == a.Name })
		g := m.global(a.Name)
		if again || slices.Contains(reads, g) || slices.Contains(writes, g) {
			return true
		}
	}
	return false
}

func (m model) flaw() api.Flaw {
	for _, phase := range []func() api.Flaw{m.again, m.main, m.node, m.cycle, m.shared, m.unset, m.end} {
		if f := phase(); f.Code != 0 {
			return f
		}
	}
	return api.Flaw{}
}

func (m model) again() api.Flaw {
	for i, g := range m.p.Globals {
		if m.global(g.Name) < i {
			return api.Flaw{Code: api.FlAgain}
		}
	}
	for i, f := range m.p.Funcs {
		bad := m.function(f.Name) < i
		for j, p := range f.Params {
			bad = bad || m.global(p.Name) >= 0 || slices.IndexFunc(f.Params, func(q api.Param) bool { return q.Name == p.Name }) < j
		}
		if bad {
			return api.Flaw{Code: api.FlAgain, Path: []int{i}}
		}
	}
	return api.Flaw{}
}

func (m model) main() api.Flaw {
	if i := m.function("main"); i < 0 || len(m.p.Funcs[i].Params) > 0 || m.p.Funcs[i].Result != 0 {
		return api.Flaw{Code: api.FlMain}
	}
	return api.Flaw{}
}

func (m model) node() api.Flaw {
	for _, path := range m.lookOrder() {
		if code := m.nodeFlaw(path); code != 0 {
			return api.Flaw{Code: code, Path: path}
		}
	}
	return api.Flaw{}
}

func (m model) cycle() api.Flaw {
	for i := range m.p.Funcs {
		if slices.Contains(m.reached(i), i) {
			return api.Flaw{Code: api.FlCycle, Path: []int{i}}
		}
	}
	return api.Flaw{}
}

func (m model) shared() api.Flaw {
	for _, n := range m.nodes {
		if n.Expr.Kind == api.ExCall && m.shares(n.Expr, m.place(n.path).visible) {
			return api.Flaw{Code: api.FlShared, Path: n.path}
		}
	}
	return api.Flaw{}
}

func (m model) unset() api.Flaw {
	for _, path := range m.lookOrder() {
		n, _ := syntax.At(m.p, path)
		if k, _ := find(m.place(path).visible, n.Expr.Name); n.Expr.Kind == api.ExName && !k.Set {
			return api.Flaw{Code: api.FlUnset, Path: path}
		}
	}
	return api.Flaw{}
}

func (m model) end() api.Flaw {
	for i, f := range m.p.Funcs {
		if f.Result != 0 && !slices.ContainsFunc(f.Body, func(s api.Stmt) bool { return !endsNormally(s) }) {
			return api.Flaw{Code: api.FlReturn, Path: []int{i}}
		}
	}
	return api.Flaw{}
}
