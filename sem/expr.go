package sem

import "cupel/api"

func (r *run) eval(x *api.Expr) (value, stop) {
	if s := r.step(); s != nil {
		return value{}, s
	}
	switch x.Kind {
	case api.ExInt:
		return value{api.TyInt, x.Int}, nil
	case api.ExSmall:
		return value{api.TySmall, x.Int}, nil
	case api.ExBool:
		return value{api.TyBool, x.Int}, nil
	case api.ExName:
		v := r.find(x.Name)
		return value{v.kind, v.cells[0]}, nil
	case api.ExIndex:
		return r.load(x)
	case api.ExCall:
		return r.call(x)
	case api.ExUnary:
		a, s := r.arg(x, 0)
		if s != nil {
			return value{}, s
		}
		return value{a.kind, r.unaries[x.Op].apply(a.kind, a.n)}, nil
	case api.ExBinary:
		return r.operate(x)
	case api.ExToInt:
		a, s := r.arg(x, 0)
		return value{api.TyInt, a.n}, s
	}
	a, s := r.arg(x, 0)
	return value{api.TySmall, wrap(api.TySmall, a.n)}, s
}

// arg evaluates an argument of the expression that is evaluated.
func (r *run) arg(x *api.Expr, i int) (value, stop) {
	r.frame.push(i)
	defer r.frame.pop()
	return r.eval(&x.Args[i])
}

func (r *run) load(x *api.Expr) (value, stop) {
	i, s := r.arg(x, 0)
	if s != nil {
		return value{}, s
	}
	cell, s := r.element(x.Name, i.n)
	if s != nil {
		return value{}, s
	}
	return value{r.find(x.Name).kind, *cell}, nil
}

// operate evaluates a binary expression; its second argument only if the first one does not decide.
func (r *run) operate(x *api.Expr) (value, stop) {
	a, s := r.arg(x, 0)
	if s != nil || x.Op == api.BiLand && a.n == 0 || x.Op == api.BiLor && a.n == 1 {
		return a, s
	}
	b, s := r.arg(x, 1)
	if s != nil {
		return value{}, s
	}
	n, end, code := r.binaries[x.Op].apply(a.kind, a.n, b.n)
	if end != 0 {
		return value{}, r.end(end, code)
	}
	if x.Op >= api.BiEq { // comparisons, && and ||
		return value{api.TyBool, n}, nil
	}
	return value{a.kind, n}, nil
}

func (r *run) call(x *api.Expr) (value, stop) {
	f := r.funcs[x.Name]
	params := map[string]variable{}
	for i, p := range r.p.Funcs[f].Params {
		v, s := r.pass(x, i, p.Type)
		if s != nil {
			return value{}, s
		}
		params[p.Name] = v
	}
	switch s := r.body(f, params).(type) {
	case returned:
		return s.value, nil
	case ended:
		return value{}, s
	}
	return value{}, nil
}

// pass returns what a parameter is: a scalar with the value of the argument, or the array of the caller.
func (r *run) pass(x *api.Expr, i int, t api.Type) (variable, stop) {
	a, s := r.arg(x, i)
	if s != nil {
		return variable{}, s
	}
	if t.Len > 0 { // the name has taken its step, and nothing is done with what it has read
		return r.find(x.Args[i].Name), nil
	}
	return newVariable(t, a.n), nil
}
