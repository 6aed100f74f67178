package syntax

import "cupel/api"

// wrong is what a reader panics with when the current token is one with which no program goes on.
const wrong = "wrong token"

// Parse reads a program; with ErrSyntax it returns the place of the first wrong token.
func Parse(text string) (api.Program, int, api.Errno) {
	if len(text) > api.MaxSource {
		return api.Program{}, 0, api.ErrLong
	}
	r := newReader(text)
	p, e := r.read()
	if e != api.OK {
		return api.Program{}, r.now.at, e
	}
	if e := Check(p); e != api.OK {
		return api.Program{}, 0, e
	}
	return p, 0, api.OK
}

// reader reads a text token by token; now is the current one, the first that has not been accepted.
type reader struct {
	text  string
	now   token
	stmts map[string]func() api.Stmt
}

func newReader(text string) *reader {
	r := &reader{text: text, now: scan(text, 0)}
	r.stmts = map[string]func() api.Stmt{
		"let":      r.letStmt,
		"print":    r.printStmt,
		"trap":     r.trapStmt,
		"if":       r.ifStmt,
		"while":    r.whileStmt,
		"for":      r.forStmt,
		"break":    r.breakStmt,
		"continue": r.continueStmt,
		"return":   r.returnStmt,
	}
	return r
}

func (r *reader) read() (p api.Program, e api.Errno) {
	defer func() {
		if recover() != nil {
			p, e = api.Program{}, api.ErrSyntax
		}
	}()
	for r.accept("global") {
		p.Globals = append(p.Globals, r.global())
	}
	for r.accept("func") {
		p.Funcs = append(p.Funcs, r.function())
	}
	if r.now.kind != tokenEnd {
		panic(wrong)
	}
	return p, api.OK
}

// take accepts the current token, whatever it is.
func (r *reader) take() token {
	t := r.now
	r.now = scan(r.text, t.at+len(t.text))
	return t
}

func (r *reader) is(text string) bool { return r.now.kind == tokenFixed && r.now.text == text }

func (r *reader) accept(text string) bool {
	if !r.is(text) {
		return false
	}
	r.take()
	return true
}

func (r *reader) expect(text string) {
	if !r.accept(text) {
		panic(wrong)
	}
}

func (r *reader) name() string {
	if r.now.kind != tokenName {
		panic(wrong)
	}
	return r.take().text
}

// number reads a number without an s; what is above most stays above it, and is left to Check.
func (r *reader) number(most int64) int {
	if r.now.kind != tokenNumber {
		panic(wrong)
	}
	return int(min(r.take().value, most+1))
}

func (r *reader) global() api.Global {
	g := api.Global{Name: r.name()}
	r.expect(":")
	g.Type = r.readType()
	if r.accept("=") {
		g.Init = r.initial(g.Type)
	}
	r.expect(";")
	return g
}

func (r *reader) initial(t api.Type) int64 {
	switch {
	case t.Len != 0:
		panic(wrong)
	case t.Kind == api.TyBool && r.is("true"):
		r.take()
		return 1
	case t.Kind == api.TyBool:
		r.expect("false")
		return 0
	case r.accept("-"):
		if r.now.kind != tokenNumber || r.now.value == 0 {
			panic(wrong)
		}
		return -r.take().value
	case r.now.kind == tokenNumber || r.now.kind == tokenSmall && t.Kind == api.TySmall:
		return r.take().value
	}
	panic(wrong)
}

func (r *reader) readType() api.Type {
	t := api.Type{Kind: r.scalar()}
	if r.accept("[") {
		t.Len = r.number(api.MaxArray)
		if t.Len == 0 {
			t.Len = -1 // an array without elements is no scalar, and is left to Check
		}
		r.expect("]")
	}
	return t
}

func (r *reader) scalar() int {
	for kind, word := range typeWords {
		if word != "" && r.accept(word) {
			return kind
		}
	}
	panic(wrong)
}

func (r *reader) function() api.Func {
	f := api.Func{Name: r.name()}
	r.expect("(")
	if !r.accept(")") {
		f.Params = append(f.Params, r.param())
		for r.accept(",") {
			f.Params = append(f.Params, r.param())
		}
		r.expect(")")
	}
	if r.accept(":") {
		f.Result = r.scalar()
	}
	f.Body = r.block()
	return f
}

func (r *reader) param() api.Param {
	p := api.Param{Name: r.name()}
	r.expect(":")
	p.Type = r.readType()
	return p
}
