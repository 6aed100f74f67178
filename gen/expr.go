package gen

import (
	"slices"

	"cupel/api"
)

// exprForm makes an expression of a kind, the parts of which have a depth; false: what it needs is not there.
type exprForm func(kind, depth int) (api.Expr, bool)

func (m *maker) intForms() [8]exprForm {
	return [...]exprForm{
		m.arithmetic, m.arithmetic, m.arithmetic, m.arithmetic,
		m.element, m.sign, m.toInt, m.result,
	}
}

func (m *maker) smallForms() [5]exprForm {
	return [...]exprForm{m.arithmetic, m.arithmetic, m.arithmetic, m.complement, m.toSmall}
}

func (m *maker) boolForms() [4]exprForm {
	return [...]exprForm{m.compareInts, m.compareSmalls, m.connect, m.not}
}

func (m *maker) expr(kind, depth int) api.Expr {
	if depth == 0 || m.draw(4) == 0 {
		return m.leaf(kind)
	}
	forms := m.exprs[kind]
	if x, ok := forms[m.draw(len(forms))](kind, depth-1); ok {
		return x
	}
	return m.leaf(kind)
}

func (m *maker) leaf(kind int) api.Expr {
	scalars := m.those(func(v api.Known) bool { return v.Type == api.Type{Kind: kind} })
	if len(scalars) > 0 && m.draw(2) == 0 {
		v, _ := oneOf(m, scalars)
		return named(v)
	}
	switch kind {
	case api.TySmall:
		return literal(api.ExSmall, m.draw(256))
	case api.TyBool:
		return literal(api.ExBool, m.draw(2))
	}
	return m.number()
}

// number makes a literal of int, or one with a - in front.
func (m *maker) number() api.Expr {
	values := [...]int{0, 1, 2, 3, 7, 10, 64, 255, 1000}
	x := literal(api.ExInt, values[m.draw(len(values))])
	if m.draw(4) == 0 {
		return unary(api.UnNeg, x)
	}
	return x
}

// pair makes both operands of an operator.
func (m *maker) pair(op, kind, depth int) (api.Expr, bool) {
	left := m.expr(kind, depth)
	right := m.expr(kind, depth)
	return binary(op, left, right), true
}

func (m *maker) arithmetic(kind, depth int) (api.Expr, bool) {
	return m.pair(api.BiMul+m.draw(10), kind, depth)
}

func (m *maker) compare(kind, depth int) (api.Expr, bool) {
	return m.pair(api.BiEq+m.draw(6), kind, depth)
}

func (m *maker) compareInts(_, depth int) (api.Expr, bool) { return m.compare(api.TyInt, depth) }

func (m *maker) compareSmalls(_, depth int) (api.Expr, bool) { return m.compare(api.TySmall, depth) }

func (m *maker) connect(kind, depth int) (api.Expr, bool) {
	return m.pair(api.BiLand+m.draw(2), kind, depth)
}

func (m *maker) element(kind, depth int) (api.Expr, bool) {
	list := m.those(func(v api.Known) bool { return isArray(v.Type) && v.Type.Kind == kind })
	v, ok := oneOf(m, list)
	if !ok {
		return api.Expr{}, false
	}
	return api.Expr{Kind: api.ExIndex, Name: v.Name, Args: []api.Expr{m.expr(api.TyInt, depth)}}, true
}

func (m *maker) sign(kind, depth int) (api.Expr, bool) {
	signs := [...]int{api.UnNeg, api.UnComp}
	op := signs[m.draw(len(signs))]
	return unary(op, m.expr(kind, depth)), true
}

func (m *maker) complement(kind, depth int) (api.Expr, bool) {
	return unary(api.UnComp, m.expr(kind, depth)), true
}

func (m *maker) not(kind, depth int) (api.Expr, bool) {
	return unary(api.UnNot, m.expr(kind, depth)), true
}

func (m *maker) toInt(_, depth int) (api.Expr, bool) {
	kinds := [...]int{api.TySmall, api.TyBool}
	from := kinds[m.draw(len(kinds))]
	return converted(api.ExToInt, m.expr(from, depth)), true
}

func (m *maker) toSmall(_, depth int) (api.Expr, bool) {
	return converted(api.ExToSmall, m.expr(api.TyInt, depth)), true
}

// result makes a call for its value.
func (m *maker) result(kind, depth int) (api.Expr, bool) {
	f, ok := oneOf(m, m.functions(kind))
	if !ok {
		return api.Expr{}, false
	}
	x := api.Expr{Kind: api.ExCall, Name: f.Name}
	for _, p := range f.Params {
		x.Args = append(x.Args, m.expr(p.Type.Kind, depth))
	}
	return x, true
}

// functions returns those that may be called, have a result of a kind, and no arrays.
func (m *maker) functions(kind int) []api.Func {
	var list []api.Func
	for _, f := range m.funcs {
		takesArray := slices.ContainsFunc(f.Params, func(p api.Param) bool { return isArray(p.Type) })
		if f.Result == kind && !takesArray {
			list = append(list, f)
		}
	}
	return list
}
