package gen

import (
	"cupel/api"
	"cupel/defined"
	"cupel/syntax"
	"cupel/types"
)

// Guard returns a program in which each operator that may be undefined is guarded, one after the other: a guard changes what is known of all that follows.
func Guard(p api.Program) (api.Program, api.Errno) {
	for {
		proof, e := defined.Prove(p)
		switch {
		case e != api.OK:
			return api.Program{}, e
		case proof.Defined:
			return copied(p)
		}
		if p, e = guardAt(p, proof.At); e != api.OK {
			return api.Program{}, e
		}
	}
}

// copied returns a program without a flaw in memory of its own.
func copied(p api.Program) (api.Program, api.Errno) {
	first := []int{0}
	f, _ := syntax.At(p, first)
	return syntax.Replace(p, first, f)
}

// guardAt guards the operator at a path.
func guardAt(p api.Program, path []int) (api.Program, api.Errno) {
	n, _ := syntax.At(p, path)
	t, _ := types.TypeOf(p, path)
	n.Expr.Args[1] = guarded(n.Expr.Op, t.Kind, n.Expr.Args[1])
	return syntax.Replace(p, path, n)
}

// guarded returns an operand for which an operator is defined, whatever the other operand is.
func guarded(op, kind int, y api.Expr) api.Expr {
	switch {
	case op == api.BiDiv || op == api.BiRem:
		return binary(api.BiOr, guarded(api.BiShl, kind, y), literal(api.ExInt, 1))
	case kind == api.TySmall:
		return binary(api.BiAnd, y, literal(api.ExSmall, 7))
	}
	return binary(api.BiAnd, y, literal(api.ExInt, 63))
}
