package syntax

import (
	"slices"

	"cupel/api"
)

// Replace returns the program with another node of the same kind at a path.
func Replace(p api.Program, path []int, n api.Node) (api.Program, api.Errno) {
	if e := Check(p); e != api.OK {
		return api.Program{}, e
	}
	p = cloneProgram(p)
	s := find(&p, path)
	if !s.holds() {
		return api.Program{}, api.ErrNone
	}
	if n.Kind != s.kind || !isAlone(n) {
		return api.Program{}, api.ErrArg
	}
	switch s.kind {
	case api.NdFunc:
		(*s.funcs)[s.at] = n.Func
	case api.NdStmt:
		(*s.stmts)[s.at] = n.Stmt
	case api.NdExpr:
		s.exprs[s.at] = n.Expr
	}
	return checked(p)
}

// Delete returns the program without the function or statement at a path.
func Delete(p api.Program, path []int) (api.Program, api.Errno) {
	if e := Check(p); e != api.OK {
		return api.Program{}, e
	}
	p = cloneProgram(p)
	s := find(&p, path)
	if !s.holds() {
		return api.Program{}, api.ErrNone
	}
	switch s.kind {
	case api.NdFunc:
		*s.funcs = slices.Delete(*s.funcs, s.at, s.at+1)
	case api.NdStmt:
		*s.stmts = slices.Delete(*s.stmts, s.at, s.at+1)
	default:
		return api.Program{}, api.ErrArg
	}
	return checked(p)
}

// Insert returns the program with a statement before the one at a path, or after the last one of a block.
func Insert(p api.Program, path []int, stmt api.Stmt) (api.Program, api.Errno) {
	if e := Check(p); e != api.OK {
		return api.Program{}, e
	}
	p = cloneProgram(p)
	s := find(&p, path)
	if s.kind != api.NdStmt || s.at < 0 || s.at > s.length() {
		return api.Program{}, api.ErrNone
	}
	*s.stmts = slices.Insert(*s.stmts, s.at, stmt)
	return checked(p)
}

// checked returns a program in memory of its own, or the error of Check. The copy must come after the check, as what was put into the program may contain itself.
func checked(p api.Program) (api.Program, api.Errno) {
	if e := Check(p); e != api.OK {
		return api.Program{}, e
	}
	return cloneProgram(p), api.OK
}

// isAlone reports whether the fields of a node that its kind does not use are zero.
func isAlone(n api.Node) bool {
	f, s, x := n.Func, n.Stmt, n.Expr
	noFunc := f.Name == "" && f.Result == 0 && len(f.Params) == 0 && len(f.Body) == 0
	noStmt := s.Kind == 0 && s.Name == "" && s.Type == api.Type{} && s.Bound == 0 && len(s.Exprs) == 0 && len(s.Body) == 0 && len(s.Else) == 0
	noExpr := x.Kind == 0 && x.Op == 0 && x.Int == 0 && x.Name == "" && len(x.Args) == 0
	return (noFunc || n.Kind == api.NdFunc) && (noStmt || n.Kind == api.NdStmt) && (noExpr || n.Kind == api.NdExpr)
}

func cloneProgram(p api.Program) api.Program {
	return api.Program{Globals: append([]api.Global(nil), p.Globals...), Funcs: cloneList(p.Funcs, cloneFunc)}
}

// cloneList copies a list with what its elements contain; an empty one becomes nil.
func cloneList[T any](list []T, clone func(T) T) []T {
	var out []T
	for _, x := range list {
		out = append(out, clone(x))
	}
	return out
}

func cloneFunc(f api.Func) api.Func {
	f.Params, f.Body = append([]api.Param(nil), f.Params...), cloneList(f.Body, cloneStmt)
	return f
}

func cloneStmt(s api.Stmt) api.Stmt {
	s.Exprs, s.Body, s.Else = cloneList(s.Exprs, cloneExpr), cloneList(s.Body, cloneStmt), cloneList(s.Else, cloneStmt)
	return s
}

func cloneExpr(x api.Expr) api.Expr {
	x.Args = cloneList(x.Args, cloneExpr)
	return x
}
