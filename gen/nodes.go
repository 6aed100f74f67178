package gen

import "cupel/api"

func literal(kind, value int) api.Expr { return api.Expr{Kind: kind, Int: int64(value)} }

func named(v api.Known) api.Expr { return api.Expr{Kind: api.ExName, Name: v.Name} }

func unary(op int, x api.Expr) api.Expr {
	return api.Expr{Kind: api.ExUnary, Op: op, Args: []api.Expr{x}}
}

func binary(op int, x, y api.Expr) api.Expr {
	return api.Expr{Kind: api.ExBinary, Op: op, Args: []api.Expr{x, y}}
}

// converted is an ExToInt or ExToSmall.
func converted(kind int, x api.Expr) api.Expr { return api.Expr{Kind: kind, Args: []api.Expr{x}} }

func printing(x api.Expr) api.Stmt { return api.Stmt{Kind: api.StPrint, Exprs: []api.Expr{x}} }

func isArray(t api.Type) bool { return t.Len > 0 }
