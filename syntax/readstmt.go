package syntax

import "cupel/api"

func (r *reader) block() []api.Stmt {
	var list []api.Stmt
	r.expect("{")
	for !r.accept("}") {
		list = append(list, r.stmt())
	}
	return list
}

func (r *reader) stmt() api.Stmt {
	if r.now.kind == tokenName {
		return r.named()
	}
	read, ok := r.stmts[r.now.text]
	if !ok {
		panic(wrong)
	}
	r.take()
	return read()
}

func (r *reader) named() api.Stmt {
	s := api.Stmt{Kind: api.StSet, Name: r.name()}
	switch {
	case r.is("("):
		s = api.Stmt{Kind: api.StCall, Exprs: []api.Expr{r.call(s.Name)}}
	case r.accept("["):
		s.Kind = api.StPut
		s.Exprs = append(s.Exprs, r.expr())
		r.expect("]")
		r.expect("=")
		s.Exprs = append(s.Exprs, r.expr())
	default:
		r.expect("=")
		s.Exprs = append(s.Exprs, r.expr())
	}
	r.expect(";")
	return s
}

func (r *reader) letStmt() api.Stmt {
	s := api.Stmt{Kind: api.StLet, Name: r.name()}
	r.expect(":")
	s.Type = r.readType()
	if r.accept("=") {
		s.Exprs = append(s.Exprs, r.expr())
	}
	r.expect(";")
	return s
}

func (r *reader) printStmt() api.Stmt {
	s := api.Stmt{Kind: api.StPrint, Exprs: []api.Expr{r.expr()}}
	r.expect(";")
	return s
}

func (r *reader) trapStmt() api.Stmt { return r.bare(api.StTrap) }

func (r *reader) breakStmt() api.Stmt { return r.bare(api.StBreak) }

func (r *reader) continueStmt() api.Stmt { return r.bare(api.StContinue) }

func (r *reader) bare(kind int) api.Stmt {
	r.expect(";")
	return api.Stmt{Kind: kind}
}

func (r *reader) returnStmt() api.Stmt {
	s := api.Stmt{Kind: api.StReturn}
	if !r.is(";") {
		s.Exprs = append(s.Exprs, r.expr())
	}
	r.expect(";")
	return s
}

func (r *reader) ifStmt() api.Stmt {
	s := api.Stmt{Kind: api.StIf, Exprs: []api.Expr{r.expr()}, Body: r.block()}
	if r.accept("else") {
		s.Else = r.block()
	}
	return s
}

func (r *reader) whileStmt() api.Stmt {
	s := api.Stmt{Kind: api.StWhile, Exprs: []api.Expr{r.expr()}}
	r.expect("upto")
	s.Bound = r.number(api.MaxBound)
	s.Body = r.block()
	return s
}

func (r *reader) forStmt() api.Stmt {
	s := api.Stmt{Kind: api.StFor, Name: r.name()}
	r.expect("in")
	s.Exprs = append(s.Exprs, r.expr())
	r.expect("..")
	s.Exprs = append(s.Exprs, r.expr())
	s.Body = r.block()
	return s
}
