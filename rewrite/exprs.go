package rewrite

import (
	"math/bits"
	"slices"

	"cupel/api"
)

func isBinary(x api.Expr, ops ...int) bool {
	return x.Kind == api.ExBinary && slices.Contains(ops, x.Op)
}

func commute(x place) (api.Expr, bool) {
	ops := []int{api.BiAdd, api.BiMul, api.BiAnd, api.BiXor, api.BiOr, api.BiEq, api.BiNe, api.BiLand, api.BiLor}
	return exchanged(x.expr, x.expr.Op, ops)
}

func mirror(x place) (api.Expr, bool) {
	ops := []int{api.BiLt, api.BiLe, api.BiGt, api.BiGe}
	mirrored := [api.BiLor + 1]int{api.BiLt: api.BiGt, api.BiLe: api.BiGe, api.BiGt: api.BiLt, api.BiGe: api.BiLe}
	return exchanged(x.expr, mirrored[x.expr.Op], ops)
}

// exchanged returns a binary expression, if its operator is one of some, with its simple operands exchanged and another operator.
func exchanged(x api.Expr, op int, ops []int) (api.Expr, bool) {
	if !isBinary(x, ops...) || !simple(x) {
		return api.Expr{}, false
	}
	return binary(op, x.Args[1], x.Args[0]), true
}

func associate(x place) (api.Expr, bool) {
	outer := x.expr
	if !isBinary(outer, api.BiAdd, api.BiMul, api.BiAnd, api.BiXor, api.BiOr, api.BiLand, api.BiLor) || !isBinary(outer.Args[0], outer.Op) {
		return api.Expr{}, false
	}
	inner := outer.Args[0]
	return binary(outer.Op, inner.Args[0], binary(outer.Op, inner.Args[1], outer.Args[1])), true
}

func zero(x place) (api.Expr, bool) {
	kind := x.free()
	return binary(api.BiAdd, x.expr, literal(kind, 0)), isNumber(kind)
}

// twice makes the rules that put an operator of numbers twice in front.
func twice(op int) func(x place) (api.Expr, bool) {
	return func(x place) (api.Expr, bool) {
		return unary(op, unary(op, x.expr)), isNumber(x.free())
	}
}

func deny(x place) (api.Expr, bool) {
	return unary(api.UnNot, unary(api.UnNot, x.expr)), x.free() == api.TyBool
}

func double(x place) (api.Expr, bool) {
	if n, ok := factor(x.expr); !ok || n.Int != 2 || !simple(x.expr.Args[0]) {
		return api.Expr{}, false
	}
	return binary(api.BiAdd, x.expr.Args[0], x.expr.Args[0]), true
}

func shift(x place) (api.Expr, bool) {
	n, ok := factor(x.expr)
	if !ok || n.Int < 2 || bits.OnesCount64(uint64(n.Int)) > 1 {
		return api.Expr{}, false
	}
	n.Int = int64(bits.TrailingZeros64(uint64(n.Int)))
	return binary(api.BiShl, x.expr.Args[0], n), true
}

// factor returns the literal by which something is multiplied.
func factor(x api.Expr) (api.Expr, bool) {
	if !isBinary(x, api.BiMul) {
		return api.Expr{}, false
	}
	n := x.Args[1]
	return n, n.Kind == api.ExInt || n.Kind == api.ExSmall
}

// simple reports whether an expression has no effect, and always a value.
func simple(x api.Expr) bool {
	if x.Kind == api.ExIndex || x.Kind == api.ExCall || isBinary(x, api.BiDiv, api.BiRem, api.BiShl, api.BiShr) {
		return false
	}
	return !slices.ContainsFunc(x.Args, func(y api.Expr) bool { return !simple(y) })
}

func isNumber(kind int) bool { return kind == api.TyInt || kind == api.TySmall }

// literal returns a literal of a kind of types.
func literal(kind int, n int64) api.Expr {
	kinds := [...]int{0, api.TyInt: api.ExInt, api.TySmall: api.ExSmall, api.TyBool: api.ExBool}
	return api.Expr{Kind: kinds[kind], Int: n}
}

func named(name string) api.Expr { return api.Expr{Kind: api.ExName, Name: name} }

func unary(op int, x api.Expr) api.Expr {
	return api.Expr{Kind: api.ExUnary, Op: op, Args: []api.Expr{x}}
}

func binary(op int, x, y api.Expr) api.Expr {
	return api.Expr{Kind: api.ExBinary, Op: op, Args: []api.Expr{x, y}}
}
