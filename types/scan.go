package types

import (
	"slices"

	"cupel/api"
)

// scan goes through a program in the order in which flaws of nodes are looked for. It goes on after a flaw, but keeps the first one: what it finds later may follow from it.
type scan struct {
	program  *api.Program
	function *api.Func   // in which the scan is
	visible  []api.Known // at the place at which the scan is
	path     []int       // of the node or place
	loops    int         // around it
	flaw     api.Flaw    // the first one of a node
	unset    api.Flaw    // the first FlUnset
	exprs    map[int]func(x typed) api.Type
	stmts    map[int]func(x *api.Stmt, values []api.Type)
	atExpr   func(t api.Type) // is called after each expression
	atPlace  func()           // is called before each statement, and after the last one of a block
}

// What the value of an expression is for.
const (
	asValue = iota
	asArgument
	asStatement // the call is a statement, and needs no result
)

// typed is an expression with the types of its Args.
type typed struct {
	*api.Expr
	args []api.Type
	use  int
}

func newScan(p *api.Program) *scan {
	s := &scan{program: p, atExpr: func(api.Type) {}, atPlace: func() {}}
	s.exprs, s.stmts = s.exprKinds(), s.stmtKinds()
	return s
}

func (s *scan) run() {
	var globals []api.Known
	for _, g := range s.program.Globals {
		globals = append(globals, api.Known{Name: g.Name, Type: g.Type, Where: api.KnGlobal, Set: true})
	}
	for i := range s.program.Funcs {
		s.function = &s.program.Funcs[i]
		known := slices.Clone(globals)
		for _, p := range s.function.Params {
			known = append(known, api.Known{Name: p.Name, Type: p.Type, Where: api.KnParam, Set: true})
		}
		s.below(i, func() { s.block(s.function.Body, known...) })
	}
}

// below does something one step further down.
func (s *scan) below(step int, do func()) {
	s.path = append(s.path, step)
	do()
	s.path = s.path[:len(s.path)-1]
}

// require reports a flaw of the node unless something is as it should be.
func (s *scan) require(ok bool, code int) {
	if !ok && s.flaw.Code == 0 {
		s.flaw = s.here(code)
	}
}

func (s *scan) here(code int) api.Flaw { return api.Flaw{Code: code, Path: slices.Clone(s.path)} }

// find returns the visible variable of a name, or nil; it holds until another one becomes visible.
func (s *scan) find(name string) *api.Known {
	for i := range s.visible {
		if s.visible[i].Name == name {
			return &s.visible[i]
		}
	}
	return nil
}

func (s *scan) hide(length int) { s.visible = s.visible[:length] }

// block goes through a block, in which more is visible than around it.
func (s *scan) block(list []api.Stmt, more ...api.Known) {
	defer s.hide(len(s.visible))
	s.visible = append(s.visible, more...)
	for i := range list {
		s.below(i, func() { s.stmt(&list[i]) })
	}
	s.below(len(list), s.atPlace)
}

func (s *scan) stmt(x *api.Stmt) {
	s.atPlace()
	use := asValue
	if x.Kind == api.StCall {
		use = asStatement
	}
	s.stmts[x.Kind](x, s.values(x.Exprs, 2, use))
	if !ends(x) {
		s.setAll()
	}
}

// values returns the types of expressions to which the steps from first on lead.
func (s *scan) values(list []api.Expr, first, use int) []api.Type {
	values := make([]api.Type, len(list))
	for i := range list {
		s.below(first+i, func() { values[i] = s.expr(&list[i], use) })
	}
	return values
}

func (s *scan) expr(x *api.Expr, use int) api.Type {
	argUse := asValue
	if x.Kind == api.ExCall {
		argUse = asArgument
	}
	t := s.exprs[x.Kind](typed{x, s.values(x.Args, 0, argUse), use})
	s.atExpr(t)
	return t
}

// setAll gives values to all that is visible: the place is not reached.
func (s *scan) setAll() {
	for i := range s.visible {
		s.visible[i].Set = true
	}
}

// branches goes through both parts of a StIf; after it only that has a value which has one after both.
func (s *scan) branches(x *api.Stmt) {
	before := slices.Clone(s.visible)
	s.below(0, func() { s.block(x.Body) })
	after := s.visible
	s.visible = before
	s.below(1, func() { s.block(x.Else) })
	for i := range s.visible {
		s.visible[i].Set = s.visible[i].Set && after[i].Set
	}
}

// loop goes through the Body of a loop; after it only that has a value which had one before, as there may be no round.
func (s *scan) loop(x *api.Stmt, more ...api.Known) {
	before := slices.Clone(s.visible)
	s.loops++
	s.below(0, func() { s.block(x.Body, more...) })
	s.loops--
	s.visible = before
}
