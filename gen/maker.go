package gen

import (
	"strconv"

	"cupel/api"
)

// numbers are drawn from a state.
type numbers struct{ state uint64 }

// draw goes to the next state, and returns the number from 0 to n - 1 that belongs to it.
func (x *numbers) draw(n int) int {
	x.state = Next(x.state)
	return Draw(x.state, n)
}

// maker makes the program of a plan. Whatever draws numbers does so in the order of the chapter: another order makes another program.
type maker struct {
	numbers
	plan    api.Plan
	funcs   []api.Func  // those that are made already; all of them may be called
	visible []api.Known // in the order of types.Names
	names   int         // of lets and fors of the function that is being made
	loops   int         // around what is being made
	stmts   [13]stmtForm
	exprs   [api.TyBool + 1][]exprForm // by the kinds of types
}

func newMaker(x api.Plan) *maker {
	m := &maker{numbers: numbers{x.Seed}, plan: x}
	m.stmts = m.stmtForms()
	ints, smalls, bools := m.intForms(), m.smallForms(), m.boolForms()
	m.exprs = [...][]exprForm{api.TyInt: ints[:], api.TySmall: smalls[:], api.TyBool: bools[:]}
	return m
}

// oneOf draws one of a list, unless it is empty.
func oneOf[T any](m *maker, list []T) (one T, ok bool) {
	if len(list) == 0 {
		return one, false
	}
	return list[m.draw(len(list))], true
}

// those returns the visible variables that suit.
func (m *maker) those(suits func(v api.Known) bool) []api.Known {
	var list []api.Known
	for _, v := range m.visible {
		if suits(v) {
			list = append(list, v)
		}
	}
	return list
}

func (m *maker) show(v ...api.Known) { m.visible = append(m.visible, v...) }

func (m *maker) hide(length int) { m.visible = m.visible[:length] }

// newName takes the next name of a function.
func (m *maker) newName(letter string) string {
	name := numbered(letter, m.names)
	m.names++
	return name
}

func numbered(letter string, n int) string { return letter + strconv.Itoa(n) }

func (m *maker) program() api.Program {
	var p api.Program
	for i := range m.draw(4) {
		g := m.global(numbered("g", i))
		m.show(api.Known{Name: g.Name, Type: g.Type, Where: api.KnGlobal})
		p.Globals = append(p.Globals, g)
	}
	for i := range m.plan.Funcs {
		m.funcs = append(m.funcs, m.function(numbered("f", i)))
	}
	main := api.Func{Name: "main", Body: m.body(0)}
	p.Funcs = append(m.funcs, main)
	return p
}

func (m *maker) global(name string) api.Global {
	g := api.Global{Name: name}
	values := 0
	switch m.draw(6) {
	case 0, 1:
		g.Type.Kind, values = api.TyInt, 100
	case 2:
		g.Type.Kind, values = api.TySmall, 256
	case 3:
		g.Type.Kind, values = api.TyBool, 2
	case 4:
		g.Type = api.Type{Kind: api.TyInt, Len: 1 + m.draw(6)}
	case 5:
		g.Type = api.Type{Kind: api.TySmall, Len: 1 + m.draw(6)}
	}
	if values > 0 {
		g.Init = int64(m.draw(values))
	}
	return g
}

func (m *maker) function(name string) api.Func {
	defer m.hide(len(m.visible))
	f := api.Func{Name: name}
	for i := range m.draw(3) {
		p := api.Param{Name: numbered("p", i), Type: m.paramType()}
		m.show(api.Known{Name: p.Name, Type: p.Type, Where: api.KnParam})
		f.Params = append(f.Params, p)
	}
	results := [...]int{0, api.TyInt, api.TyInt, api.TySmall}
	f.Result = results[m.draw(len(results))]
	f.Body = m.body(f.Result)
	return f
}

func (m *maker) paramType() api.Type {
	switch m.draw(5) {
	case 2:
		return api.Type{Kind: api.TySmall}
	case 3:
		return api.Type{Kind: api.TyBool}
	case 4:
		return m.smallArray()
	}
	return api.Type{Kind: api.TyInt}
}

// smallArray draws the type of a parameter, or let, that is an array.
func (m *maker) smallArray() api.Type { return api.Type{Kind: api.TyInt, Len: 2 + m.draw(3)} }

// body makes the Body of a function; the variables that it declares are visible in the return behind it.
func (m *maker) body(result int) []api.Stmt {
	defer m.hide(len(m.visible))
	m.names = 0
	share := max(m.plan.Stmts/(m.plan.Funcs+1), 1)
	list := m.fill(room{left: share, nested: 2})
	if result != 0 {
		value := m.expr(result, m.plan.Depth)
		list = append(list, api.Stmt{Kind: api.StReturn, Exprs: []api.Expr{value}})
	}
	return list
}
