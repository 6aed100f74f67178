package defined

import (
	"cupel/api"
	"cupel/ranges"
)

// divide goes through a condition, and returns the states in which it is true, and not. The analysis is then in neither of them.
func (a *analysis) divide(x *expr) (yes, no state) {
	if a.now.dead() {
		return nil, nil
	}
	a.visit()
	switch {
	case x.Kind == api.ExUnary: // of a truth: !
		no, yes = a.divide(x.args[0])
	case isComparison(x):
		yes, no = a.compare(x)
	case x.Kind == api.ExBinary:
		yes, no = a.connective(x)
	default:
		yes, no = a.test(x)
	}
	if !yes.dead() || !no.dead() {
		x.values.add(truths(yes, no))
	}
	return yes, no
}

// truths returns the range of a condition that was divided into states, of which one at least is not dead.
func truths(yes, no state) api.Range {
	switch {
	case no.dead():
		return single(1)
	case yes.dead():
		return single(0)
	}
	return full(api.TyBool)
}

// connective divides && or ||, whose second operand is gone through only where the first one does not decide.
func (a *analysis) connective(x *expr) (yes, no state) {
	yes, no = a.divide(x.args[0])
	if x.Op == api.BiLand {
		a.now = yes
		both, second := a.divide(x.args[1])
		return both, together(no, second)
	}
	a.now = no
	second, neither := a.divide(x.args[1])
	return together(yes, second), neither
}

func (a *analysis) compare(x *expr) (yes, no state) {
	left, right := a.expr(x.args[0]), a.expr(x.args[1])
	if a.now.dead() {
		return nil, nil
	}
	return a.assume(x, left, right, true), a.assume(x, left, right, false)
}

// assume returns the state in which a comparison of these values is true, or is not.
func (a *analysis) assume(x *expr, left, right value, truth bool) state {
	l, r, possible, _ := ranges.Assume(x.Op, left.kind, left.r, right.r, truth)
	if !possible {
		return nil
	}
	s := a.now
	// A call on the right may have changed what the name on the left means.
	if x.args[0].Kind == api.ExName && !x.args[1].calls {
		s = s.holding(x.args[0].Name, l)
	}
	if x.args[1].Kind == api.ExName {
		s = s.holding(x.args[1].Name, r)
	}
	return s
}

// test divides a condition that has no conditions in it.
func (a *analysis) test(x *expr) (yes, no state) {
	v := a.exprs[x.Kind](x)
	if a.now.dead() {
		return nil, nil
	}
	if v.r.High == 1 {
		yes = a.know(x, 1)
	}
	if v.r.Low == 0 {
		no = a.know(x, 0)
	}
	return yes, no
}

// know returns the state in which a condition has this value.
func (a *analysis) know(x *expr, truth int64) state {
	if x.Kind != api.ExName {
		return a.now
	}
	return a.now.holding(x.Name, single(truth))
}
