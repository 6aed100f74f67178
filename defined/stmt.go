package defined

import (
	"maps"

	"cupel/api"
)

// stmtKinds says what the statements of each kind do.
func (a *analysis) stmtKinds() map[int]func(x *stmt) {
	return map[int]func(x *stmt){
		api.StLet:      a.let,
		api.StSet:      a.set,
		api.StPut:      a.put,
		api.StCall:     a.only,
		api.StPrint:    a.only,
		api.StTrap:     a.trap,
		api.StIf:       a.choose,
		api.StWhile:    a.while,
		api.StFor:      a.count,
		api.StBreak:    a.breakOff,
		api.StContinue: a.goOn,
		api.StReturn:   a.leave,
	}
}

// block goes through statements, and leaves out what they have declared.
func (a *analysis) block(list []*stmt) {
	outside := a.now
	for _, x := range list {
		if a.now.dead() {
			return
		}
		a.visit()
		a.stmts[x.Kind](x)
	}
	a.now = a.now.within(outside)
}

func (a *analysis) let(x *stmt) {
	r := full(x.Type.Kind)
	if x.Type.Len > 0 {
		r = single(0)
	}
	if len(x.exprs) > 0 {
		r = a.expr(x.exprs[0]).r
	}
	if !a.now.dead() {
		a.now = a.now.with(x.Name, variable{x.Type, r})
	}
}

func (a *analysis) set(x *stmt) {
	v := a.expr(x.exprs[0])
	if !a.now.dead() {
		a.now = a.now.holding(x.Name, v.r)
	}
}

func (a *analysis) put(x *stmt) {
	i, v := a.expr(x.exprs[0]), a.expr(x.exprs[1])
	a.element(x.place, x.Name, i)
	if !a.now.dead() {
		a.now = a.now.holding(x.Name, join(a.now[x.Name].r, v.r))
	}
}

// only goes through the expression of a statement that does no more.
func (a *analysis) only(x *stmt) { a.expr(x.exprs[0]) }

func (a *analysis) trap(x *stmt) { x.traps, a.now = true, nil }

func (a *analysis) choose(x *stmt) {
	yes, no := a.divide(x.exprs[0])
	a.now = yes
	a.block(x.body)
	after := a.now
	a.now = no
	a.block(x.otherwise)
	a.now = together(after, a.now)
}

func (a *analysis) while(x *stmt) {
	var yes, no state
	_, breaks := a.rounds(func() {
		yes, no = a.divide(x.exprs[0])
		a.now = yes
		a.block(x.body)
	})
	a.now = together(yes, no, breaks) // where the condition is true as well: the bound may end the loop
}

func (a *analysis) count(x *stmt) {
	from, to := a.expr(x.exprs[0]), a.expr(x.exprs[1])
	if a.now.dead() || to.r.High <= from.r.Low {
		return
	}
	counter := variable{api.Type{Kind: api.TyInt}, api.Range{Low: from.r.Low, High: to.r.High - 1}}
	last, breaks := a.rounds(func() {
		a.now = a.now.with(x.Name, counter)
		a.block(x.body)
	})
	a.now = together(last, breaks)
}

// rounds goes through rounds of a loop, until one leads to nothing new. It returns the state in which the last one began, and where the breaks of all of them lead.
func (a *analysis) rounds(round func()) (begin, breaks state) {
	around := a.jumps
	a.jumps = jumps{}
	begin = a.now
	for n := 1; ; n++ {
		a.now, a.jumps.continues = begin, nil
		round()
		next := together(begin, a.now, a.jumps.continues)
		if maps.Equal(next, begin) {
			break
		}
		if n >= 3 {
			next = next.widened(begin)
		}
		begin = next
	}
	breaks = a.jumps.breaks.within(begin)
	a.jumps = around
	return begin, breaks
}

func (a *analysis) breakOff(*stmt) {
	a.jumps.breaks, a.now = together(a.jumps.breaks, a.now), nil
}

func (a *analysis) goOn(*stmt) {
	a.jumps.continues, a.now = together(a.jumps.continues, a.now), nil
}

func (a *analysis) leave(x *stmt) {
	if len(x.exprs) > 0 {
		v := a.expr(x.exprs[0])
		if a.now.dead() {
			return
		}
		a.returns.values.add(v.r)
	}
	a.returns.to, a.now = together(a.returns.to, a.now), nil
}
