package rewrite

import "cupel/api"

// rule is a rule, for expressions or for statements: the function for these says what becomes of one at a place (false: nothing), the other one is nil. What becomes of a statement includes those behind it in its block.
type rule struct {
	name string
	expr func(x place) (api.Expr, bool)
	stmt func(x place) ([]api.Stmt, bool)
}

func rules() [19]rule {
	return [...]rule{
		{name: "commute", expr: commute},
		{name: "mirror", expr: mirror},
		{name: "associate", expr: associate},
		{name: "zero", expr: zero},
		{name: "negate", expr: twice(api.UnNeg)},
		{name: "invert", expr: twice(api.UnComp)},
		{name: "deny", expr: deny},
		{name: "turn", stmt: turn},
		{name: "wrap", stmt: around(truth)},
		{name: "once", stmt: around(round)},
		{name: "single", stmt: around(count)},
		{name: "hoist", stmt: hoist},
		{name: "dead", stmt: dead},
		{name: "peel", stmt: peel},
		{name: "double", expr: double},
		{name: "shift", expr: shift},
		{name: "rename", stmt: rename},
		{name: "part", stmt: part},
		{name: "exchange", stmt: exchange},
	}
}

func isRule(rule int) bool { return rule >= 0 && rule < len(rules()) }

// at returns the program with the rule applied at a place, or ErrNone if that is no site: the rule can not be applied, or makes the program too large.
func (r rule) at(x place) (api.Program, api.Errno) {
	p, e := api.Program{}, api.ErrNone
	if x.isStmt() && r.stmt != nil {
		if rest, ok := r.stmt(x); ok {
			p, e = x.withRest(rest)
		}
	}
	if !x.isStmt() && r.expr != nil {
		if y, ok := r.expr(x); ok {
			p, e = x.withExpr(y)
		}
	}
	if e != api.OK {
		return api.Program{}, api.ErrNone
	}
	return p, api.OK
}

func (r rule) sites(p api.Program) [][]int {
	var paths [][]int
	for x := range places(p) {
		if _, e := r.at(x); e == api.OK {
			paths = append(paths, x.path)
		}
	}
	return paths
}
