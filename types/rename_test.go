package types_test

import (
	"slices"
	"testing"

	"cupel/api"
	"cupel/types"
)

// scope is where a variable means what it does: its own name, and the functions or statements in which it is visible.
type scope struct {
	name   *string
	funcs  []api.Func
	stmts  []api.Stmt
	others []api.Known // what is visible, or declared with it, where it is declared
}

// scopes returns those of all variables of a program, into which they point.
func (m model) scopes() []scope {
	var globals []api.Known
	for _, g := range m.p.Globals {
		globals = append(globals, api.Known{Name: g.Name})
	}
	var out []scope
	for i := range m.p.Globals {
		out = append(out, scope{name: &m.p.Globals[i].Name, funcs: m.p.Funcs, others: without(globals, i)})
	}
	for i, f := range m.p.Funcs {
		var params []api.Known
		for _, p := range f.Params {
			params = append(params, api.Known{Name: p.Name})
		}
		for j := range f.Params {
			out = append(out, scope{name: &f.Params[j].Name, stmts: f.Body, others: append(without(params, j), globals...)})
		}
		out = append(out, m.scopesIn(f.Body, []int{i})...)
	}
	return out
}

func without(list []api.Known, i int) []api.Known { return slices.Delete(slices.Clone(list), i, i+1) }

func (m model) scopesIn(list []api.Stmt, path []int) []scope {
	var out []scope
	for i := range list {
		s, here := &list[i], under(path, i)
		known := m.place(here).visible
		switch s.Kind {
		case api.StLet:
			out = append(out, scope{name: &s.Name, stmts: list[i+1:], others: known})
		case api.StFor:
			out = append(out, scope{name: &s.Name, stmts: s.Body, others: known})
		}
		out = append(out, m.scopesIn(s.Body, under(here, 0))...)
		out = append(out, m.scopesIn(s.Else, under(here, 1))...)
	}
	return out
}

// isAlone reports whether no other variable has the name where the one of the scope is visible.
func (s scope) isAlone() bool {
	_, again := find(s.others, *s.name)
	eachName(s.stmts, func(name *string, declares bool) { again = again || declares && *name == *s.name })
	for _, f := range s.funcs {
		again = again || slices.ContainsFunc(f.Params, func(p api.Param) bool { return p.Name == *s.name })
		eachName(f.Body, func(name *string, declares bool) { again = again || declares && *name == *s.name })
	}
	return !again
}

// rename gives a variable another name, everywhere where it means the same.
func (s scope) rename(to string) {
	from := *s.name
	*s.name = to
	change := func(name *string, _ bool) {
		if *name == from {
			*name = to
		}
	}
	eachName(s.stmts, change)
	for _, f := range s.funcs {
		eachName(f.Body, change)
	}
}

// eachName calls do for each name of a variable in statements.
func eachName(list []api.Stmt, do func(name *string, declares bool)) {
	var exprs func(list []api.Expr)
	exprs = func(list []api.Expr) {
		for i := range list {
			if list[i].Kind != api.ExCall {
				do(&list[i].Name, false)
			}
			exprs(list[i].Args)
		}
	}
	for i := range list {
		s := &list[i]
		exprs(s.Exprs)
		do(&s.Name, s.Kind == api.StLet || s.Kind == api.StFor)
		eachName(s.Body, do)
		eachName(s.Else, do)
	}
}

// P2.7: renaming a variable makes no difference to the flaw.
func TestRenaming(t *testing.T) {
	renamed := map[int]int{}
	programs(t, 700, func(m model, code int) {
		before := text(m.p)
		want, _ := types.Check(m.p)
		for i := range m.scopes() {
			for _, name := range []string{"New_1", "printed", "abcdefghijklmnop"} {
				n := model{p: read(t, before)}
				s := n.scopes()[i]
				if !s.isAlone() {
					continue
				}
				s.rename(name)
				renamed[code]++
				if got, e := types.Check(n.p); e != api.OK || got.Code != want.Code || !slices.Equal(got.Path, want.Path) {
					t.Errorf("%s\nhas %v, with another name %v (error %d):\n%s", before, want, got, e, text(n.p))
				}
			}
		}
	})
	if renamed[0] < 1000 || renamed[api.FlUnset] < 5 || renamed[api.FlAgain] < 50 {
		t.Errorf("renamed: %v", renamed)
	}
}
