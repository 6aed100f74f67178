package rewrite

import (
	"iter"
	"slices"

	"cupel/api"
	"cupel/syntax"
	"cupel/types"
)

// place is where an expression stands, or a statement with those behind it in its block.
type place struct {
	program api.Program
	path    []int
	rest    []api.Stmt // the statement and those behind it; empty for an expression
	expr    api.Expr
	called  bool   // the expression is the one of a StCall
	seed    uint64 // of the mutation
}

// places goes through the statements and expressions of a program, in the order of nodes.
func places(p api.Program) iter.Seq[place] {
	return func(yield func(place) bool) {
		w := walk{p, yield}
		for i, f := range p.Funcs {
			if !w.stmts(f.Body, []int{i}) {
				return
			}
		}
	}
}

// walk goes through the parts of a program as long as they are wanted.
type walk struct {
	program api.Program
	yield   func(place) bool
}

// stmts goes through the block to which a path leads, and reports whether more is wanted.
func (w walk) stmts(list []api.Stmt, path []int) bool {
	for i, s := range list {
		here := below(path, i)
		more := w.yield(place{program: w.program, path: here, rest: list[i:]}) &&
			w.exprs(s.Exprs, here, 2, s.Kind == api.StCall) &&
			w.stmts(s.Body, below(here, 0)) &&
			w.stmts(s.Else, below(here, 1))
		if !more {
			return false
		}
	}
	return true
}

// exprs goes through expressions in the node of a path; their steps begin with first.
func (w walk) exprs(list []api.Expr, path []int, first int, called bool) bool {
	for i, x := range list {
		here := below(path, first+i)
		more := w.yield(place{program: w.program, path: here, expr: x, called: called}) &&
			w.exprs(x.Args, here, 0, false)
		if !more {
			return false
		}
	}
	return true
}

// below returns a path with one more step, in memory of its own.
func below(path []int, step int) []int { return append(slices.Clone(path), step) }

func (x place) isStmt() bool { return len(x.rest) > 0 }

// free returns the kind of an expression that is free, otherwise 0.
func (x place) free() int {
	if x.called {
		return 0
	}
	return kindAt(x.program, x.path)
}

// kindAt returns the kind of an expression that has a scalar type, otherwise 0.
func kindAt(p api.Program, path []int) int {
	t, _ := types.TypeOf(p, path)
	if t.Len > 0 {
		return 0
	}
	return t.Kind
}

// instead returns what stands in a block from a statement on if others stand instead of this one.
func (x place) instead(list ...api.Stmt) []api.Stmt { return slices.Concat(list, x.rest[1:]) }

// withExpr returns the program with another expression at the place.
func (x place) withExpr(y api.Expr) (api.Program, api.Errno) {
	return syntax.Replace(x.program, x.path, api.Node{Kind: api.NdExpr, Expr: y})
}

// withRest returns the program with other statements in the block of the place, from there on.
func (x place) withRest(rest []api.Stmt) (api.Program, api.Errno) {
	last := len(x.path) - 1
	above, inStmt := x.path[:last], last > 1
	if inStmt { // between the statement and the index there is a step to its Body or Else
		above = x.path[:last-1]
	}
	n, _ := syntax.At(x.program, above)
	block := &n.Func.Body
	switch {
	case inStmt && x.path[last-1] == 0:
		block = &n.Stmt.Body
	case inStmt:
		block = &n.Stmt.Else
	}
	*block = append((*block)[:x.path[last]], rest...)
	return syntax.Replace(x.program, above, n)
}
