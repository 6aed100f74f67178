package rewrite

import (
	"slices"

	"cupel/api"
	"cupel/gen"
)

func turn(x place) ([]api.Stmt, bool) {
	s := x.rest[0]
	if s.Kind != api.StIf || len(s.Else) == 0 {
		return nil, false
	}
	s.Exprs = []api.Expr{unary(api.UnNot, s.Exprs[0])}
	s.Body, s.Else = s.Else, s.Body
	return x.instead(s), true
}

// around makes the rules that put a statement around one that declares nothing and does not leave its block.
func around(outer func(p api.Program) api.Stmt) func(x place) ([]api.Stmt, bool) {
	return func(x place) ([]api.Stmt, bool) {
		s := x.rest[0]
		if s.Kind != api.StPrint && s.Kind != api.StCall && s.Kind != api.StPut {
			return nil, false
		}
		o := outer(x.program)
		o.Body = []api.Stmt{s}
		return x.instead(o), true
	}
}

// truth returns an if that does its Body.
func truth(api.Program) api.Stmt {
	return api.Stmt{Kind: api.StIf, Exprs: []api.Expr{literal(api.TyBool, 1)}}
}

// round returns a while of one round.
func round(api.Program) api.Stmt {
	return api.Stmt{Kind: api.StWhile, Exprs: []api.Expr{literal(api.TyBool, 1)}, Bound: 1}
}

// count returns a for of one round.
func count(p api.Program) api.Stmt {
	return api.Stmt{Kind: api.StFor, Name: newName(p), Exprs: []api.Expr{literal(api.TyInt, 0), literal(api.TyInt, 1)}}
}

func hoist(x place) ([]api.Stmt, bool) {
	s := x.rest[0]
	if len(s.Exprs) == 0 || s.Kind == api.StCall || s.Kind == api.StWhile {
		return nil, false
	}
	before := let(newName(x.program), kindAt(x.program, below(x.path, 2)), s.Exprs[0])
	s.Exprs = slices.Concat([]api.Expr{named(before.Name)}, s.Exprs[1:])
	return x.instead(before, s), true
}

func dead(x place) ([]api.Stmt, bool) {
	n := gen.Draw(gen.Next(x.seed), 100)
	return x.instead(let(newName(x.program), api.TyInt, literal(api.TyInt, int64(n))), x.rest[0]), true
}

func let(name string, kind int, value api.Expr) api.Stmt {
	return api.Stmt{Kind: api.StLet, Name: name, Type: api.Type{Kind: kind}, Exprs: []api.Expr{value}}
}

func peel(x place) ([]api.Stmt, bool) {
	s := x.rest[0]
	if s.Kind != api.StFor || leaves(s.Body) {
		return nil, false
	}
	low, high := s.Exprs[0], s.Exprs[1]
	if low.Kind != api.ExInt || high.Kind != api.ExInt || low.Int >= high.Int {
		return nil, false
	}
	first := truth(x.program)
	first.Body = replaced(s.Body, s.Name, low)
	low.Int++
	s.Exprs = []api.Expr{low, high}
	return x.instead(first, s), true
}

// leaves reports whether the Body of a loop leaves it, or its round.
func leaves(list []api.Stmt) bool {
	return slices.ContainsFunc(list, func(s api.Stmt) bool {
		switch s.Kind {
		case api.StBreak, api.StContinue:
			return true
		case api.StIf:
			return leaves(s.Body) || leaves(s.Else)
		}
		return false
	})
}

func rename(x place) ([]api.Stmt, bool) {
	s, rest := x.rest[0], x.rest[1:]
	name := newName(x.program)
	switch s.Kind {
	case api.StLet:
		rest = replaced(rest, s.Name, named(name))
	case api.StFor:
		s.Body = replaced(s.Body, s.Name, named(name))
	default:
		return nil, false
	}
	s.Name = name
	return slices.Concat([]api.Stmt{s}, rest), true
}

func part(x place) ([]api.Stmt, bool) {
	s := x.rest[0]
	if s.Kind != api.StLet || s.Type.Len > 0 || len(s.Exprs) > 0 {
		return nil, false
	}
	s.Exprs = []api.Expr{literal(s.Type.Kind, 0)}
	return x.instead(s), true
}

func exchange(x place) ([]api.Stmt, bool) {
	if len(x.rest) < 2 || !isSimpleLet(x.rest[0]) || !isSimpleLet(x.rest[1]) {
		return nil, false
	}
	first, second := x.rest[0], x.rest[1]
	if mentions(second.Exprs[0], first.Name) {
		return nil, false
	}
	return slices.Concat([]api.Stmt{second, first}, x.rest[2:]), true
}

// isSimpleLet reports whether a statement is the let of a scalar with a simple value.
func isSimpleLet(s api.Stmt) bool {
	return s.Kind == api.StLet && len(s.Exprs) > 0 && simple(s.Exprs[0])
}
