package lower

import "cupel/api"

// value is the operand of an expression, and whether it is of small.
type value struct {
	opd   api.Opd
	small bool
}

// exprKinds says how the expressions of each kind are lowered.
func exprKinds() [api.ExToSmall + 1]func(*builder, api.Expr) value {
	return [api.ExToSmall + 1]func(*builder, api.Expr) value{
		api.ExInt:     (*builder).literal,
		api.ExSmall:   (*builder).literal,
		api.ExBool:    (*builder).literal,
		api.ExName:    (*builder).variable,
		api.ExIndex:   (*builder).element,
		api.ExCall:    (*builder).call,
		api.ExUnary:   (*builder).unary,
		api.ExBinary:  (*builder).binary,
		api.ExToInt:   (*builder).toInt,
		api.ExToSmall: (*builder).toSmall,
	}
}

func (b *builder) value(x api.Expr) value { return b.exprs[x.Kind](b, x) }

func (b *builder) operand(x api.Expr) api.Opd { return b.value(x).opd }

func (b *builder) literal(x api.Expr) value {
	return value{constant(x.Int), x.Kind == api.ExSmall}
}

func (b *builder) variable(x api.Expr) value {
	v := b.variables[x.Name]
	if v.where == inRegister {
		return value{api.Opd{Reg: v.index}, isSmall(v.Type)}
	}
	t := b.register()
	b.add(api.Instr{Op: api.IxGet, To: t.Reg, Cell: v.index})
	return value{t, isSmall(v.Type)}
}

func (b *builder) element(x api.Expr) value {
	i, v := b.operand(x.Args[0]), b.variables[x.Name]
	b.check(i, v)
	t := b.register()
	b.add(api.Instr{Op: api.IxLoad, To: t.Reg, Array: v.index, A: i})
	return value{t, isSmall(v.Type)}
}

func (b *builder) call(x api.Expr) value { return b.callTo(x, true) }

// callTo calls a function, and puts its result into a new register if it is needed.
func (b *builder) callTo(x api.Expr, needed bool) value {
	f := b.funcs[x.Name]
	c := api.Instr{Op: api.IxCall, To: -1, Func: f.index}
	for _, arg := range x.Args {
		if v := b.variables[arg.Name]; arg.Kind == api.ExName && v.where == inArray {
			c.Arrays = append(c.Arrays, v.index)
			continue
		}
		c.Args = append(c.Args, b.operand(arg))
	}
	if !needed {
		b.add(c)
		return value{}
	}
	t := b.register()
	c.To = t.Reg
	b.add(c)
	return value{t, f.small}
}

func (b *builder) unary(x api.Expr) value {
	a := b.value(x.Args[0])
	switch {
	case x.Op == api.UnNeg:
		return b.wrapped(value{b.operated(api.IbSub, constant(0), a.opd), a.small})
	case x.Op == api.UnNot:
		a.opd = b.operated(api.IbXor, a.opd, constant(1))
	case a.small:
		a.opd = b.operated(api.IbXor, a.opd, constant(255))
	default:
		a.opd = b.operated(api.IbXor, a.opd, constant(-1))
	}
	return a
}

// wrapped takes what an operation makes of small values into their range.
func (b *builder) wrapped(v value) value {
	if v.small {
		v.opd = b.operated(api.IbAnd, v.opd, constant(255))
	}
	return v
}

func (b *builder) binary(x api.Expr) value {
	if x.Op == api.BiLand || x.Op == api.BiLor {
		return b.connective(x)
	}
	left, right := b.value(x.Args[0]), b.value(x.Args[1])
	v := value{b.combined(x.Op, left.opd, right.opd), left.small}
	switch x.Op {
	case api.BiEq, api.BiNe, api.BiLt, api.BiLe, api.BiGt, api.BiGe:
		v.small = false
	case api.BiAdd:
		if !b.on(api.FtLower1) {
			v = b.wrapped(v)
		}
	case api.BiSub, api.BiMul, api.BiShl:
		v = b.wrapped(v)
	}
	return v
}

// combined returns a new register with the result of a binary operator. No operation asks for what is greater: the operands change places.
func (b *builder) combined(op int, left, right api.Opd) api.Opd {
	if op == api.BiGt || op == api.BiGe {
		left, right = right, left
	}
	return b.operated(operations[op], left, right)
}

// operations are those of the binary operators, but && and ||.
var operations = [...]int{
	api.BiMul: api.IbMul,
	api.BiDiv: api.IbDiv,
	api.BiRem: api.IbRem,
	api.BiAdd: api.IbAdd,
	api.BiSub: api.IbSub,
	api.BiShl: api.IbShl,
	api.BiShr: api.IbShr,
	api.BiAnd: api.IbAnd,
	api.BiXor: api.IbXor,
	api.BiOr:  api.IbOr,
	api.BiEq:  api.IbEq,
	api.BiNe:  api.IbNe,
	api.BiLt:  api.IbLt,
	api.BiLe:  api.IbLe,
	api.BiGt:  api.IbLt,
	api.BiGe:  api.IbLe,
}

// connective makes the second operand only where the first one does not decide.
func (b *builder) connective(x api.Expr) value {
	a := b.operand(x.Args[0])
	t := b.register()
	b.copy(t, a)
	right, after := b.block(), b.block()
	if x.Op == api.BiLand {
		b.branch(t, right, after)
	} else {
		b.branch(t, after, right)
	}
	b.now = right
	b.copy(t, b.operand(x.Args[1]))
	b.jump(after)
	b.now = after
	return value{opd: t}
}

func (b *builder) toInt(x api.Expr) value {
	return value{opd: b.operand(x.Args[0])}
}

func (b *builder) toSmall(x api.Expr) value {
	return value{b.operated(api.IbAnd, b.operand(x.Args[0]), constant(255)), true}
}
