package defined

import (
	"slices"

	"cupel/api"
)

// place is where a node of the program is, and what the analysis finds out about it.
type place struct {
	path             []int
	traps, undefined bool   // it may trap, it may be undefined
	values           spread // what it yields, if it is an expression
}

// spread is the least range that contains all that were added.
type spread struct {
	r    api.Range
	some bool
}

// expr is an expression in its place.
type expr struct {
	*api.Expr
	*place
	args  []*expr
	calls bool // an ExCall is in it
}

// stmt is a statement in its place.
type stmt struct {
	*api.Stmt
	*place
	exprs           []*expr
	body, otherwise []*stmt
}

// function is a function with the statements of its Body in their places.
type function struct {
	*api.Func
	body []*stmt
}

// layout collects the places of statements and expressions, in the order of nodes.
type layout struct{ places []*place }

// functions returns those of a program by their names.
func (l *layout) functions(p *api.Program) map[string]function {
	funcs := map[string]function{}
	for i := range p.Funcs {
		f := &p.Funcs[i]
		funcs[f.Name] = function{f, l.block(f.Body, []int{i})}
	}
	return funcs
}

func (l *layout) add(path []int, step int) *place {
	at := &place{path: below(path, step)}
	l.places = append(l.places, at)
	return at
}

// below returns a path with one more step, in memory of its own.
func below(path []int, step int) []int { return append(slices.Clone(path), step) }

// block lays out the statements of the block to which a path leads.
func (l *layout) block(list []api.Stmt, path []int) []*stmt {
	block := make([]*stmt, len(list))
	for i := range list {
		x := &stmt{Stmt: &list[i], place: l.add(path, i)}
		x.exprs = l.exprs(x.Exprs, x.path, 2)
		x.body = l.block(x.Body, below(x.path, 0))
		x.otherwise = l.block(x.Else, below(x.path, 1))
		block[i] = x
	}
	return block
}

// exprs lays out expressions in the node of a path; their steps begin with first.
func (l *layout) exprs(list []api.Expr, path []int, first int) []*expr {
	exprs := make([]*expr, len(list))
	for i := range list {
		x := &expr{Expr: &list[i], place: l.add(path, first+i)}
		x.args = l.exprs(x.Args, x.path, 0)
		x.calls = x.Kind == api.ExCall || slices.ContainsFunc(x.args, func(arg *expr) bool { return arg.calls })
		exprs[i] = x
	}
	return exprs
}
