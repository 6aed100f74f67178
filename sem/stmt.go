package sem

import "cupel/api"

// Steps of paths from a statement to its parts.
const (
	toBody = iota
	toElse
	toExprs
)

// block runs statements in order, until one of them does not end normally.
func (r *run) block(list []api.Stmt) stop {
	for i := range list {
		r.frame.push(i)
		s := r.stmt(&list[i])
		r.frame.pop()
		if s != nil {
			return s
		}
	}
	return nil
}

// part runs the Body or the Else of the statement that runs.
func (r *run) part(step int, list []api.Stmt) stop {
	r.frame.push(step)
	defer r.frame.pop()
	return r.block(list)
}

// expr evaluates an expression of the statement that runs.
func (r *run) expr(x *api.Stmt, k int) (value, stop) {
	r.frame.push(toExprs + k)
	defer r.frame.pop()
	return r.eval(&x.Exprs[k])
}

func (r *run) stmt(x *api.Stmt) stop {
	if s := r.step(); s != nil {
		return s
	}
	r.begins()
	switch x.Kind {
	case api.StLet:
		return r.let(x)
	case api.StSet:
		return r.set(x)
	case api.StPut:
		return r.put(x)
	case api.StCall:
		_, s := r.expr(x, 0)
		return s
	case api.StPrint:
		return r.print(x)
	case api.StTrap:
		return r.end(api.EnTrap, api.TrStated)
	case api.StIf:
		return r.choose(x)
	case api.StWhile:
		return r.while(x)
	case api.StFor:
		return r.count(x)
	case api.StBreak:
		return broken{}
	case api.StContinue:
		return continued{}
	}
	return r.leave(x)
}

func (r *run) let(x *api.Stmt) stop {
	var v value
	if len(x.Exprs) > 0 {
		var s stop
		if v, s = r.expr(x, 0); s != nil {
			return s
		}
	}
	r.frame.vars[x.Name] = newVariable(x.Type, v.n)
	return nil
}

func (r *run) set(x *api.Stmt) stop {
	v, s := r.expr(x, 0)
	if s == nil {
		r.find(x.Name).cells[0] = v.n
	}
	return s
}

func (r *run) put(x *api.Stmt) stop {
	i, s := r.expr(x, 0)
	if s != nil {
		return s
	}
	v, s := r.expr(x, 1)
	if s != nil {
		return s
	}
	cell, s := r.element(x.Name, i.n)
	if s == nil {
		*cell = v.n
	}
	return s
}

// element returns the cell of an array, unless the index makes the node that runs trap.
func (r *run) element(name string, i int64) (*int64, stop) {
	cells := r.find(name).cells
	if i < 0 || i >= int64(len(cells)) {
		return nil, r.end(api.EnTrap, api.TrIndex)
	}
	return &cells[i], nil
}

func (r *run) print(x *api.Stmt) stop {
	v, s := r.expr(x, 0)
	if s != nil {
		return s
	}
	if len(r.out) == api.MaxOut {
		return r.end(api.EnSteps, 0)
	}
	r.out = append(r.out, v.n)
	return nil
}

func (r *run) choose(x *api.Stmt) stop {
	c, s := r.expr(x, 0)
	switch {
	case s != nil:
		return s
	case c.n == 1:
		return r.part(toBody, x.Body)
	}
	return r.part(toElse, x.Else)
}

func (r *run) while(x *api.Stmt) stop {
	for rounds := 0; ; rounds++ {
		c, s := r.expr(x, 0)
		if s != nil || c.n == 0 || rounds == x.Bound {
			return s
		}
		if more, s := r.round(x); !more {
			return s
		}
	}
}

func (r *run) count(x *api.Stmt) stop {
	low, s := r.expr(x, 0)
	if s != nil {
		return s
	}
	high, s := r.expr(x, 1)
	if s != nil {
		return s
	}
	for i := low.n; i < high.n; i++ {
		if s := r.step(); s != nil {
			return s
		}
		r.frame.vars[x.Name] = newVariable(api.Type{Kind: api.TyInt}, i)
		if more, s := r.round(x); !more {
			return s
		}
	}
	return nil
}

// round runs the Body of a loop once, and reports whether the loop goes on, or what stops the loop too.
func (r *run) round(x *api.Stmt) (more bool, s stop) {
	switch how := r.part(toBody, x.Body).(type) {
	case nil, continued:
		return true, nil
	case broken:
		return false, nil
	default:
		return false, how
	}
}

func (r *run) leave(x *api.Stmt) stop {
	if len(x.Exprs) == 0 {
		return returned{}
	}
	v, s := r.expr(x, 0)
	if s != nil {
		return s
	}
	return returned{v}
}
