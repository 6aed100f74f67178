package syntax

import "cupel/api"

func (r *reader) expr() api.Expr { return r.binary(levelOr) }

// binary reads operands as long as they are joined by operators of a level, or of stronger ones.
func (r *reader) binary(level int) api.Expr {
	left := r.operand()
	for {
		op := r.operator()
		if binaries[op].level < level {
			return left
		}
		r.take()
		right := r.binary(binaries[op].level + 1)
		left = api.Expr{Kind: api.ExBinary, Op: op, Args: []api.Expr{left, right}}
		if binaries[op].level == levelCompare && binaries[r.operator()].level == levelCompare {
			panic(wrong)
		}
	}
}

// operator returns the binary operator that is the current token; if it is none, 0, which has no level.
func (r *reader) operator() int {
	for op, b := range binaries {
		if op != 0 && r.is(b.sign) {
			return op
		}
	}
	return 0
}

func (r *reader) operand() api.Expr {
	switch r.now.kind {
	case tokenNumber:
		return api.Expr{Kind: api.ExInt, Int: r.take().value}
	case tokenSmall:
		return api.Expr{Kind: api.ExSmall, Int: r.take().value}
	case tokenName:
		return r.variable()
	}
	for op, sign := range unarySigns {
		if op != 0 && r.accept(sign) {
			return api.Expr{Kind: api.ExUnary, Op: op, Args: []api.Expr{r.operand()}}
		}
	}
	switch {
	case r.accept("true"):
		return api.Expr{Kind: api.ExBool, Int: 1}
	case r.accept("false"):
		return api.Expr{Kind: api.ExBool}
	case r.accept("int"):
		return api.Expr{Kind: api.ExToInt, Args: []api.Expr{r.enclosed()}}
	case r.accept("small"):
		return api.Expr{Kind: api.ExToSmall, Args: []api.Expr{r.enclosed()}}
	}
	return r.enclosed()
}

func (r *reader) enclosed() api.Expr {
	r.expect("(")
	x := r.expr()
	r.expect(")")
	return x
}

func (r *reader) variable() api.Expr {
	name := r.name()
	switch {
	case r.is("("):
		return r.call(name)
	case r.accept("["):
		x := api.Expr{Kind: api.ExIndex, Name: name, Args: []api.Expr{r.expr()}}
		r.expect("]")
		return x
	}
	return api.Expr{Kind: api.ExName, Name: name}
}

// call reads the arguments of a call, from the ( on.
func (r *reader) call(name string) api.Expr {
	x := api.Expr{Kind: api.ExCall, Name: name}
	r.expect("(")
	if r.accept(")") {
		return x
	}
	x.Args = append(x.Args, r.expr())
	for r.accept(",") {
		x.Args = append(x.Args, r.expr())
	}
	r.expect(")")
	return x
}
