package syntax

import (
	"slices"

	"cupel/api"
)

// Places returns the paths of all nodes, in order.
func Places(p api.Program) ([][]int, api.Errno) {
	if e := Check(p); e != api.OK {
		return nil, e
	}
	var l list
	for i, f := range p.Funcs {
		l.add([]int{i})
		l.stmts(f.Body, []int{i})
	}
	return l.paths, api.OK
}

type list struct{ paths [][]int }

func (l *list) add(path []int) { l.paths = append(l.paths, path) }

// stmts adds the statements of the block to which a path leads, with all in them.
func (l *list) stmts(block []api.Stmt, path []int) {
	for i, s := range block {
		here := below(path, i)
		l.add(here)
		l.exprs(s.Exprs, here, 2)
		l.stmts(s.Body, below(here, 0))
		l.stmts(s.Else, below(here, 1))
	}
}

// exprs adds expressions in the node of a path; their steps begin with first.
func (l *list) exprs(exprs []api.Expr, path []int, first int) {
	for i, x := range exprs {
		here := below(path, first+i)
		l.add(here)
		l.exprs(x.Args, here, 0)
	}
}

// below returns a path with one more step, in memory of its own.
func below(path []int, step int) []int { return append(slices.Clone(path), step) }

// At returns the node of a path, with the field for its kind alone.
func At(p api.Program, path []int) (api.Node, api.Errno) {
	if e := Check(p); e != api.OK {
		return api.Node{}, e
	}
	s := find(&p, path)
	if !s.holds() {
		return api.Node{}, api.ErrNone
	}
	n := api.Node{Kind: s.kind}
	switch s.kind {
	case api.NdFunc:
		n.Func = cloneFunc((*s.funcs)[s.at])
	case api.NdStmt:
		n.Stmt = cloneStmt((*s.stmts)[s.at])
	case api.NdExpr:
		n.Expr = cloneExpr(s.exprs[s.at])
	}
	return n, api.OK
}

// spot is where a path leads: the index at, which may be outside, in the list of its kind of nodes. Kind 0: nowhere.
type spot struct {
	kind, at int
	funcs    *[]api.Func
	stmts    *[]api.Stmt
	exprs    []api.Expr
}

// holds reports whether there is a node.
func (s spot) holds() bool { return s.at >= 0 && s.at < s.length() }

func (s spot) length() int {
	switch s.kind {
	case api.NdFunc:
		return len(*s.funcs)
	case api.NdStmt:
		return len(*s.stmts)
	}
	return len(s.exprs)
}

func find(p *api.Program, path []int) spot {
	if len(path) == 0 {
		return spot{}
	}
	s := spot{kind: api.NdFunc, at: path[0], funcs: &p.Funcs}
	for path = path[1:]; len(path) > 0; {
		if !s.holds() {
			return spot{}
		}
		s, path = s.descend(path)
	}
	return s
}

// descend follows the steps that lead into a node, and returns those that are left.
func (s spot) descend(path []int) (spot, []int) {
	switch s.kind {
	case api.NdFunc:
		return spot{kind: api.NdStmt, at: path[0], stmts: &(*s.funcs)[s.at].Body}, path[1:]
	case api.NdExpr:
		return spot{kind: api.NdExpr, at: path[0], exprs: s.exprs[s.at].Args}, path[1:]
	}
	stmt := &(*s.stmts)[s.at]
	if path[0] >= 2 {
		return spot{kind: api.NdExpr, at: path[0] - 2, exprs: stmt.Exprs}, path[1:]
	}
	block := blockOf(stmt, path[0])
	if block == nil || len(path) == 1 {
		return spot{}, nil
	}
	return spot{kind: api.NdStmt, at: path[1], stmts: block}, path[2:]
}

// blockOf returns the block of a statement to which a step leads; nil if statements of its kind have none there.
func blockOf(s *api.Stmt, step int) *[]api.Stmt {
	shape := stmtShapes[s.Kind]
	switch {
	case step == 0 && shape.body:
		return &s.Body
	case step == 1 && shape.otherwise:
		return &s.Else
	}
	return nil
}
