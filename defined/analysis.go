package defined

import "cupel/api"

// analysis goes through a program without a flaw.
type analysis struct {
	globals []api.Global
	funcs   map[string]function
	exprs   map[int]func(x *expr) value
	stmts   map[int]func(x *stmt)
	visits  int
	now     state   // in which the analysis is
	returns returns // of the function that it is in
	jumps   jumps   // of the loop that it is in
}

// value is what is known of the value of an expression: its kind and range. If the state is dead after the expression, it means nothing.
type value struct {
	kind int
	r    api.Range
}

// returns is where returns of a function lead, and what they return.
type returns struct {
	to     state
	values spread
}

// jumps is where breaks of a loop lead, and continues of its last round.
type jumps struct{ breaks, continues state }

// analyse returns the places of a program, with what the analysis has found out about them.
func analyse(p *api.Program) ([]*place, api.Errno) {
	var l layout
	a := &analysis{globals: p.Globals, funcs: l.functions(p)}
	a.exprs, a.stmts = a.exprKinds(), a.stmtKinds()
	e := a.run()
	return l.places, e
}

// run goes through the program from main on.
func (a *analysis) run() (e api.Errno) {
	defer func() {
		if recover() != nil {
			e = api.ErrLong
		}
	}()
	a.now = state{}
	for _, g := range a.globals {
		a.now = a.now.with(g.Name, variable{g.Type, single(g.Init)})
	}
	a.enter(a.funcs["main"], a.now)
	return api.OK
}

// visit counts a visit; if there are too many, it leaves the analysis by a panic.
func (a *analysis) visit() {
	a.visits++
	if a.visits > api.MaxVisits {
		panic("too many visits")
	}
}

// enter goes through a function that begins in a state, and returns its end. The analysis is then nowhere.
func (a *analysis) enter(f function, begin state) returns {
	a.visit()
	caller := a.returns
	a.returns = returns{}
	a.now = begin
	a.block(f.body)
	end := returns{together(a.now, a.returns.to), a.returns.values}
	a.returns, a.now = caller, nil
	return end
}
