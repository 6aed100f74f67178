package syntax

import (
	"math"

	"cupel/api"
)

// Check returns ErrLong if the program is not small, then ErrArg if it is not well-formed.
func Check(p api.Program) api.Errno {
	if _, small := measure(p); !small {
		return api.ErrLong
	}
	if !wellFormed(p) {
		return api.ErrArg
	}
	return api.OK
}

// Size returns the number of nodes, 0 if Check returns an error.
func Size(p api.Program) int {
	if Check(p) != api.OK {
		return 0
	}
	nodes, _ := measure(p)
	return nodes
}

// gauge counts nodes, and gives up as soon as there are too many or they are too deep: a list may contain itself.
type gauge struct{ nodes int }

func measure(p api.Program) (int, bool) {
	g := gauge{}
	for i := range p.Funcs {
		if !g.count(0) || !g.stmts(p.Funcs[i].Body, 1) {
			return 0, false
		}
	}
	return g.nodes, true
}

func (g *gauge) count(depth int) bool {
	g.nodes++
	return g.nodes <= api.MaxProgram && depth <= api.MaxNest
}

func (g *gauge) stmts(list []api.Stmt, depth int) bool {
	for i := range list {
		s := &list[i]
		if !g.count(depth) || !g.exprs(s.Exprs, depth+1) || !g.stmts(s.Body, depth+1) || !g.stmts(s.Else, depth+1) {
			return false
		}
	}
	return true
}

func (g *gauge) exprs(list []api.Expr, depth int) bool {
	for i := range list {
		if !g.count(depth) || !g.exprs(list[i].Args, depth+1) {
			return false
		}
	}
	return true
}

// wellFormed is asked of small programs only.
func wellFormed(p api.Program) bool {
	if len(p.Globals) > api.MaxGlobals || len(p.Funcs) > api.MaxFuncs {
		return false
	}
	for _, g := range p.Globals {
		if !isName(g.Name) || !isType(g.Type) || !isInit(g.Type, g.Init) {
			return false
		}
	}
	for _, f := range p.Funcs {
		if !isFunc(f) {
			return false
		}
	}
	return true
}

func isKind(kind int) bool { return kind >= api.TyInt && kind <= api.TyBool }

func isType(t api.Type) bool {
	return isKind(t.Kind) && t.Len >= 0 && t.Len <= api.MaxArray && (t.Len == 0 || t.Kind != api.TyBool)
}

func isInit(t api.Type, v int64) bool {
	switch {
	case t.Len != 0:
		return v == 0
	case t.Kind == api.TyInt:
		return v != math.MinInt64
	case t.Kind == api.TySmall:
		return v >= 0 && v <= 255
	}
	return v == 0 || v == 1
}

func isFunc(f api.Func) bool {
	if !isName(f.Name) || len(f.Params) > api.MaxParams || f.Result != 0 && !isKind(f.Result) {
		return false
	}
	for _, p := range f.Params {
		if !isName(p.Name) || !isType(p.Type) {
			return false
		}
	}
	return areStmts(f.Body)
}

func areStmts(list []api.Stmt) bool {
	for i := range list {
		if !isStmt(list[i]) {
			return false
		}
	}
	return true
}

func isStmt(s api.Stmt) bool {
	if s.Kind < api.StLet || s.Kind > api.StReturn {
		return false
	}
	shape := stmtShapes[s.Kind]
	if !fitsName(s.Name, shape.named) || !fitsType(s.Type, shape.typed) || !fitsBound(s.Bound, shape.bounded) {
		return false
	}
	if len(s.Exprs) < shape.least || len(s.Exprs) > shape.most {
		return false
	}
	if s.Kind == api.StLet && s.Type.Len != 0 && len(s.Exprs) != 0 || s.Kind == api.StCall && s.Exprs[0].Kind != api.ExCall {
		return false
	}
	if !shape.body && len(s.Body) != 0 || !shape.otherwise && len(s.Else) != 0 {
		return false
	}
	return areExprs(s.Exprs) && areStmts(s.Body) && areStmts(s.Else)
}

func fitsName(name string, used bool) bool {
	if !used {
		return name == ""
	}
	return isName(name)
}

func fitsType(t api.Type, used bool) bool {
	if !used {
		return t == api.Type{}
	}
	return isType(t)
}

func fitsBound(bound int, used bool) bool {
	if !used {
		return bound == 0
	}
	return bound >= 1 && bound <= api.MaxBound
}

func areExprs(list []api.Expr) bool {
	for i := range list {
		if !isExpr(list[i]) {
			return false
		}
	}
	return true
}

func isExpr(x api.Expr) bool {
	if x.Kind < api.ExInt || x.Kind > api.ExToSmall {
		return false
	}
	shape := exprShapes[x.Kind]
	if x.Int < 0 || x.Int > shape.mostInt || !fitsName(x.Name, shape.named) {
		return false
	}
	if x.Op < min(shape.operators, 1) || x.Op > shape.operators {
		return false
	}
	return len(x.Args) >= shape.least && len(x.Args) <= shape.most && areExprs(x.Args)
}
