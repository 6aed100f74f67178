package syntax

import (
	"slices"

	"cupel/api"
)

// Same reports whether all fields of two programs are equal, well-formed or not.
func Same(a, b api.Program) bool {
	if !slices.Equal(a.Globals, b.Globals) || len(a.Funcs) != len(b.Funcs) {
		return false
	}
	c := comparison{metStmts: map[met[api.Stmt]]bool{}, metExprs: map[met[api.Expr]]bool{}}
	for i := range a.Funcs {
		if !c.funcs(&a.Funcs[i], &b.Funcs[i]) {
			return false
		}
	}
	return c.finish()
}

// comparison keeps the lists that are still to be compared. Lists may contain themselves, and be nested more deeply than calls may be: so they wait in line, and two lists that have met are not compared again. If these differ, that is seen where they met first.
type comparison struct {
	stmts    [][2][]api.Stmt
	exprs    [][2][]api.Expr
	metStmts map[met[api.Stmt]]bool
	metExprs map[met[api.Expr]]bool
}

// met is two lists of one length that begin at a and b.
type met[T any] struct {
	a, b   *T
	length int
}

func (c *comparison) funcs(a, b *api.Func) bool {
	return a.Name == b.Name && a.Result == b.Result && slices.Equal(a.Params, b.Params) && c.addStmts(a.Body, b.Body)
}

func (c *comparison) addStmts(a, b []api.Stmt) bool {
	if isNew(c.metStmts, a, b) {
		c.stmts = append(c.stmts, [2][]api.Stmt{a, b})
	}
	return len(a) == len(b)
}

func (c *comparison) addExprs(a, b []api.Expr) bool {
	if isNew(c.metExprs, a, b) {
		c.exprs = append(c.exprs, [2][]api.Expr{a, b})
	}
	return len(a) == len(b)
}

// isNew reports whether two lists must still be compared element by element, and notes that they have met.
func isNew[T any](seen map[met[T]]bool, a, b []T) bool {
	if len(a) != len(b) || len(a) == 0 {
		return false
	}
	m := met[T]{&a[0], &b[0], len(a)}
	if seen[m] {
		return false
	}
	seen[m] = true
	return true
}

func (c *comparison) finish() bool {
	for len(c.stmts) > 0 || len(c.exprs) > 0 {
		if n := len(c.exprs); n > 0 {
			lists := c.exprs[n-1]
			c.exprs = c.exprs[:n-1]
			if !slices.EqualFunc(lists[0], lists[1], c.expr) {
				return false
			}
			continue
		}
		n := len(c.stmts)
		lists := c.stmts[n-1]
		c.stmts = c.stmts[:n-1]
		if !slices.EqualFunc(lists[0], lists[1], c.stmt) {
			return false
		}
	}
	return true
}

func (c *comparison) stmt(a, b api.Stmt) bool {
	if a.Kind != b.Kind || a.Name != b.Name || a.Type != b.Type || a.Bound != b.Bound {
		return false
	}
	return c.addExprs(a.Exprs, b.Exprs) && c.addStmts(a.Body, b.Body) && c.addStmts(a.Else, b.Else)
}

func (c *comparison) expr(a, b api.Expr) bool {
	return a.Kind == b.Kind && a.Op == b.Op && a.Int == b.Int && a.Name == b.Name && c.addExprs(a.Args, b.Args)
}
