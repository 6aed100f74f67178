package rewrite

import (
	"slices"
	"strconv"

	"cupel/api"
)

// newName returns the first of t0, t1, t2, .. that no variable of a program has.
func newName(p api.Program) string {
	taken := variables(p)
	n := 0
	for taken[numbered(n)] {
		n++
	}
	return numbered(n)
}

func numbered(n int) string { return "t" + strconv.Itoa(n) }

// variables returns the names of all that a program declares but functions.
func variables(p api.Program) map[string]bool {
	names := map[string]bool{}
	for _, g := range p.Globals {
		names[g.Name] = true
	}
	for _, f := range p.Funcs {
		for _, param := range f.Params {
			names[param.Name] = true
		}
	}
	for x := range places(p) {
		if x.isStmt() && (x.rest[0].Kind == api.StLet || x.rest[0].Kind == api.StFor) {
			names[x.rest[0].Name] = true
		}
	}
	return names
}

// replaced returns statements in which a variable that is visible in all of them is replaced: an ExName by an expression, other names by that of this expression. A function may have the name of the variable.
func replaced(list []api.Stmt, name string, by api.Expr) []api.Stmt {
	list = slices.Clone(list)
	for i := range list {
		s := &list[i]
		if s.Name == name {
			s.Name = by.Name
		}
		s.Exprs = replacedIn(s.Exprs, name, by)
		s.Body, s.Else = replaced(s.Body, name, by), replaced(s.Else, name, by)
	}
	return list
}

func replacedIn(list []api.Expr, name string, by api.Expr) []api.Expr {
	list = slices.Clone(list)
	for i := range list {
		x := &list[i]
		x.Args = replacedIn(x.Args, name, by)
		switch {
		case x.Name != name:
		case x.Kind == api.ExName:
			*x = by
		case x.Kind == api.ExIndex:
			x.Name = by.Name
		}
	}
	return list
}

// mentions reports whether a name stands in a simple expression.
func mentions(x api.Expr, name string) bool {
	return x.Name == name || slices.ContainsFunc(x.Args, func(y api.Expr) bool { return mentions(y, name) })
}
