package lower

import "cupel/api"

// namedIn returns the names of the arrays that statements name, among others.
func namedIn(stmts []api.Stmt) map[string]bool {
	names := map[string]bool{}
	addStmts(names, stmts)
	return names
}

func addStmts(names map[string]bool, stmts []api.Stmt) {
	for _, s := range stmts {
		names[s.Name] = true
		addExprs(names, s.Exprs)
		addStmts(names, s.Body)
		addStmts(names, s.Else)
	}
}

// addExprs leaves out the names of calls: a function may be called like an array.
func addExprs(names map[string]bool, exprs []api.Expr) {
	for _, x := range exprs {
		if x.Kind != api.ExCall {
			names[x.Name] = true
		}
		addExprs(names, x.Args)
	}
}
