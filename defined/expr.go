package defined

import (
	"cupel/api"
	"cupel/ranges"
)

// exprKinds says what the expressions of each kind do.
func (a *analysis) exprKinds() map[int]func(x *expr) value {
	return map[int]func(x *expr) value{
		api.ExInt:     a.literal,
		api.ExSmall:   a.literal,
		api.ExBool:    a.literal,
		api.ExName:    a.name,
		api.ExIndex:   a.index,
		api.ExCall:    a.call,
		api.ExUnary:   a.unary,
		api.ExBinary:  a.binary,
		api.ExToInt:   a.toInt,
		api.ExToSmall: a.toSmall,
	}
}

// expr goes through an expression.
func (a *analysis) expr(x *expr) value {
	if a.now.dead() {
		return value{}
	}
	a.visit()
	v := a.exprs[x.Kind](x)
	if !a.now.dead() {
		x.values.add(v.r)
	}
	return v
}

func (a *analysis) literal(x *expr) value {
	kind := api.TyInt
	switch x.Kind {
	case api.ExSmall:
		kind = api.TySmall
	case api.ExBool:
		kind = api.TyBool
	}
	return value{kind, single(x.Int)}
}

func (a *analysis) name(x *expr) value {
	v := a.now[x.Name]
	return value{v.Kind, v.r}
}

func (a *analysis) index(x *expr) value {
	i := a.expr(x.args[0])
	a.element(x.place, x.Name, i)
	return a.name(x)
}

// element looks at an index of an array: at this place it may trap, or does for sure.
func (a *analysis) element(at *place, array string, index value) {
	if a.now.dead() {
		return
	}
	inside := api.Range{Low: 0, High: int64(a.now[array].Len - 1)}
	good, some, _ := ranges.Meet(index.r, inside)
	if !some || good != index.r {
		at.traps = true
	}
	if !some {
		a.now = nil
	}
}

func (a *analysis) unary(x *expr) value {
	v := a.expr(x.args[0])
	r, _ := ranges.Unary(x.Op, v.kind, v.r)
	return value{v.kind, r}
}

func (a *analysis) binary(x *expr) value {
	if x.Op == api.BiLand || x.Op == api.BiLor {
		yes, no := a.connective(x)
		a.now = together(yes, no)
		return value{api.TyBool, truths(yes, no)}
	}
	left, right := a.expr(x.args[0]), a.expr(x.args[1])
	if a.now.dead() {
		return value{}
	}
	effect, _ := ranges.Binary(x.Op, left.kind, left.r, right.r)
	x.traps = x.traps || effect.Trap
	x.undefined = x.undefined || effect.Undefined
	if !effect.Some {
		a.now = nil
	}
	if isComparison(x) {
		return value{api.TyBool, effect.R}
	}
	return value{left.kind, effect.R}
}

func isComparison(x *expr) bool {
	return x.Kind == api.ExBinary && x.Op >= api.BiEq && x.Op <= api.BiGe
}

func (a *analysis) toInt(x *expr) value {
	v := a.expr(x.args[0])
	return value{api.TyInt, v.r}
}

func (a *analysis) toSmall(x *expr) value {
	v := a.expr(x.args[0])
	r, _ := ranges.ToSmall(v.r)
	return value{api.TySmall, r}
}

func (a *analysis) call(x *expr) value {
	args := make([]value, len(x.args))
	for i, arg := range x.args {
		args[i] = a.expr(arg)
	}
	if a.now.dead() {
		return value{}
	}
	f, caller := a.funcs[x.Name], a.now
	end := a.enter(f, a.begin(f, x, args))
	if !end.to.dead() {
		a.now = a.back(f, x, caller, end.to)
	}
	return value{f.Result, end.values.r}
}

// begin returns the state in which a function begins that is called here: its globals and parameters.
func (a *analysis) begin(f function, x *expr, args []value) state {
	begin := state{}
	for _, g := range a.globals {
		begin[g.Name] = a.now[g.Name]
	}
	for i, p := range f.Params {
		r := args[i].r
		if p.Type.Len > 0 { // the arguments behind it may have changed the array
			r = a.now[x.args[i].Name].r
		}
		begin[p.Name] = variable{p.Type, r}
	}
	return begin
}

// back returns the state of the caller after a function has come to its end.
func (a *analysis) back(f function, x *expr, caller, end state) state {
	after := caller
	for _, g := range a.globals {
		after = after.with(g.Name, end[g.Name])
	}
	for i, p := range f.Params {
		if p.Type.Len > 0 {
			after = after.with(x.args[i].Name, end[p.Name])
		}
	}
	return after
}
