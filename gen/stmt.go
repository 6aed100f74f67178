package gen

import (
	"slices"

	"cupel/api"
)

// room is how many statements there may still be in a block, with those in them, and how deep blocks may be in each other.
type room struct{ left, nested int }

// stmtForm makes a statement in a block, from the room of which it takes that of its own blocks; false: what it needs is not there.
type stmtForm func(in *room) (api.Stmt, bool)

func (m *maker) stmtForms() [13]stmtForm {
	return [...]stmtForm{
		m.let, m.let, m.letArray, m.set, m.set, m.put, m.print, m.print,
		m.choose, m.count, m.while, m.call, m.jump,
	}
}

// fill makes statements until there is no room left.
func (m *maker) fill(in room) []api.Stmt {
	var list []api.Stmt
	for in.left > 0 {
		in.left--
		list = append(list, m.stmt(&in))
	}
	return list
}

func (m *maker) stmt(in *room) api.Stmt {
	if x, ok := m.stmts[m.draw(len(m.stmts))](in); ok {
		return x
	}
	x, _ := m.print(in)
	return x
}

// block makes a block of a statement, in which more is visible than around it.
func (m *maker) block(in *room, more ...api.Known) []api.Stmt {
	defer m.hide(len(m.visible))
	m.show(more...)
	share := min(m.draw(3)+1, in.left)
	in.left -= share
	return m.fill(room{left: share, nested: in.nested - 1})
}

func (m *maker) loop(in *room, more ...api.Known) []api.Stmt {
	m.loops++
	list := m.block(in, more...)
	m.loops--
	return list
}

// kind draws the kind of a let, or of what is printed.
func (m *maker) kind() int {
	kinds := [...]int{api.TyInt, api.TyInt, api.TyInt, api.TySmall, api.TyBool}
	return kinds[m.draw(len(kinds))]
}

// shallow is the depth of conditions, and of arguments of calls that are statements.
func (m *maker) shallow() int { return min(m.plan.Depth, 2) }

func (m *maker) condition() api.Expr { return m.expr(api.TyBool, m.shallow()) }

func (m *maker) let(*room) (api.Stmt, bool) {
	t := api.Type{Kind: m.kind()}
	value := m.expr(t.Kind, m.plan.Depth)
	x := api.Stmt{Kind: api.StLet, Name: m.newName("v"), Type: t, Exprs: []api.Expr{value}}
	m.show(api.Known{Name: x.Name, Type: t, Where: api.KnLocal})
	return x, true
}

func (m *maker) letArray(*room) (api.Stmt, bool) {
	x := api.Stmt{Kind: api.StLet, Name: m.newName("a"), Type: m.smallArray()}
	m.show(api.Known{Name: x.Name, Type: x.Type, Where: api.KnLocal})
	return x, true
}

func (m *maker) set(*room) (api.Stmt, bool) {
	list := m.those(func(v api.Known) bool { return !isArray(v.Type) && v.Where != api.KnFor })
	v, ok := oneOf(m, list)
	if !ok {
		return api.Stmt{}, false
	}
	value := m.expr(v.Type.Kind, m.plan.Depth)
	return api.Stmt{Kind: api.StSet, Name: v.Name, Exprs: []api.Expr{value}}, true
}

func (m *maker) put(*room) (api.Stmt, bool) {
	v, ok := oneOf(m, m.those(func(v api.Known) bool { return isArray(v.Type) }))
	if !ok {
		return api.Stmt{}, false
	}
	index := m.index(v.Type)
	value := m.expr(v.Type.Kind, m.plan.Depth)
	return api.Stmt{Kind: api.StPut, Name: v.Name, Exprs: []api.Expr{index, value}}, true
}

// index makes an index of an array to which something is assigned; half of them are inside.
func (m *maker) index(t api.Type) api.Expr {
	if m.draw(2) == 0 {
		return literal(api.ExInt, m.draw(t.Len))
	}
	return m.expr(api.TyInt, 1)
}

func (m *maker) print(*room) (api.Stmt, bool) {
	return printing(m.expr(m.kind(), m.plan.Depth)), true
}

func (m *maker) choose(in *room) (api.Stmt, bool) {
	if in.nested == 0 {
		return api.Stmt{}, false
	}
	x := api.Stmt{Kind: api.StIf, Exprs: []api.Expr{m.condition()}}
	x.Body = m.block(in)
	if m.draw(2) == 1 {
		x.Else = m.block(in)
	}
	return x, true
}

func (m *maker) count(in *room) (api.Stmt, bool) {
	if in.nested == 0 {
		return api.Stmt{}, false
	}
	from := m.draw(3)
	to := from + m.draw(5)
	x := api.Stmt{Kind: api.StFor, Name: m.newName("i")}
	x.Exprs = []api.Expr{literal(api.ExInt, from), literal(api.ExInt, to)}
	x.Body = m.loop(in, api.Known{Name: x.Name, Type: api.Type{Kind: api.TyInt}, Where: api.KnFor})
	return x, true
}

func (m *maker) while(in *room) (api.Stmt, bool) {
	if in.nested == 0 {
		return api.Stmt{}, false
	}
	x := api.Stmt{Kind: api.StWhile, Exprs: []api.Expr{m.condition()}}
	x.Bound = 1 + m.draw(5)
	x.Body = m.loop(in)
	return x, true
}

func (m *maker) call(*room) (api.Stmt, bool) {
	f, ok := oneOf(m, m.funcs)
	if !ok {
		return api.Stmt{}, false
	}
	x := api.Expr{Kind: api.ExCall, Name: f.Name}
	for _, p := range f.Params {
		arg, ok := m.argument(p.Type, x.Args)
		if !ok {
			return api.Stmt{}, false
		}
		x.Args = append(x.Args, arg)
	}
	return api.Stmt{Kind: api.StCall, Exprs: []api.Expr{x}}, true
}

// argument makes an argument of a call that stands after others. An array is one that the call does not share, as no function uses it but as its parameter.
func (m *maker) argument(t api.Type, others []api.Expr) (api.Expr, bool) {
	if !isArray(t) {
		return m.expr(t.Kind, m.shallow()), true
	}
	free := m.those(func(v api.Known) bool {
		taken := slices.ContainsFunc(others, func(x api.Expr) bool { return x.Kind == api.ExName && x.Name == v.Name })
		return v.Type == t && v.Where != api.KnGlobal && !taken
	})
	if len(free) == 0 {
		return api.Expr{}, false
	}
	return named(free[0]), true
}

// jump makes a break or continue that may be made in a round.
func (m *maker) jump(*room) (api.Stmt, bool) {
	if m.loops == 0 {
		return api.Stmt{}, false
	}
	x := api.Stmt{Kind: api.StIf, Exprs: []api.Expr{m.condition()}}
	jumps := [...]int{api.StBreak, api.StContinue}
	x.Body = []api.Stmt{{Kind: jumps[m.draw(len(jumps))]}}
	return x, true
}
