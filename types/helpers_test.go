package types_test

import (
	"fmt"
	"strings"
	"testing"

	"cupel/api"
	"cupel/syntax"
	"cupel/types"
)

func read(t *testing.T, text string) api.Program {
	t.Helper()
	p, at, e := syntax.Parse(text)
	if e != api.OK {
		t.Fatalf("Parse(%q): error %d at %d", text, e, at)
	}
	return p
}

func text(p api.Program) string {
	s, _ := syntax.Print(p)
	return s
}

// flaw is a program and the flaw that it should have; path is written like [0 1 2].
type flaw struct {
	text string
	code int
	path string
}

const noPath = "[]"

func checkFlaws(t *testing.T, list []flaw) {
	t.Helper()
	for _, c := range list {
		got, e := types.Check(read(t, c.text))
		if e != api.OK || got.Code != c.code || fmt.Sprint(got.Path) != c.path {
			t.Errorf("%s\nhas %v (error %d), want {%d %s}", c.text, got, e, c.code, c.path)
		}
	}
}

// inMain puts statements into the function main of programs that are otherwise the same.
func inMain(around string, list []flaw) []flaw {
	var out []flaw
	for _, c := range list {
		out = append(out, flaw{"func main() { " + c.text + " } " + around, c.code, c.path})
	}
	return out
}

// show writes variables shortly: what they are, name, type, and + if they have a value for sure.
func show(names []api.Known) string {
	var parts []string
	for _, k := range names {
		sign := "-"
		if k.Set {
			sign = "+"
		}
		where := map[int]string{api.KnGlobal: "global", api.KnParam: "param", api.KnLocal: "let", api.KnFor: "for"}[k.Where]
		parts = append(parts, where+" "+k.Name+":"+showType(k.Type)+sign)
	}
	return strings.Join(parts, " ")
}

func showType(t api.Type) string {
	s := map[int]string{0: "none", api.TyInt: "int", api.TySmall: "small", api.TyBool: "bool"}[t.Kind]
	if t.Len != 0 {
		s += fmt.Sprintf("[%d]", t.Len)
	}
	return s
}

// wrongPrograms are programs for which syntax.Check returns an error; some contain themselves.
func wrongPrograms() []api.Program {
	endlessArgs := make([]api.Expr, 1)
	endlessArgs[0] = api.Expr{Kind: api.ExUnary, Op: api.UnNeg, Args: endlessArgs}
	endlessBlock := make([]api.Stmt, 1)
	endlessBlock[0] = api.Stmt{Kind: api.StIf, Exprs: []api.Expr{{Kind: api.ExBool}}, Body: endlessBlock, Else: endlessBlock}
	return []api.Program{
		withBody(endlessBlock...),
		withBody(api.Stmt{Kind: api.StPrint, Exprs: endlessArgs}),
		withBody(make([]api.Stmt, 1)...),
		withBody(make([]api.Stmt, 400)...),
		withBody(api.Stmt{Kind: api.StPrint}),
		withBody(api.Stmt{Kind: api.StPrint, Exprs: make([]api.Expr, 1)}),
		withBody(api.Stmt{Kind: api.StIf, Bound: -1}),
		withBody(api.Stmt{Kind: 99}),
		{Funcs: make([]api.Func, 9)},
		{Funcs: []api.Func{{Name: "main", Result: 4}}},
		{Funcs: []api.Func{{Name: "main", Params: make([]api.Param, 5)}}},
		{Globals: []api.Global{{Name: "g"}}, Funcs: []api.Func{{Name: "main"}}},
		{Globals: []api.Global{{Name: "g", Type: api.Type{Kind: api.TyBool, Len: 2}}}, Funcs: []api.Func{{Name: "main"}}},
	}
}

func withBody(list ...api.Stmt) api.Program {
	return api.Program{Funcs: []api.Func{{Name: "main", Body: list}}}
}

// places returns the paths at which statements may stand or be put in; of those, the ones after the last statement of a block.
func places(p api.Program) [][]int {
	var out [][]int
	for f := range p.Funcs {
		out = append(out, placesIn(p.Funcs[f].Body, []int{f})...)
	}
	return out
}

func placesIn(list []api.Stmt, path []int) [][]int {
	var out [][]int
	for i, s := range list {
		here := under(path, i)
		out = append(out, here)
		if s.Kind == api.StIf || s.Kind == api.StWhile || s.Kind == api.StFor {
			out = append(out, placesIn(s.Body, under(here, 0))...)
		}
		if s.Kind == api.StIf {
			out = append(out, placesIn(s.Else, under(here, 1))...)
		}
	}
	return append(out, under(path, len(list)))
}

func under(path []int, step int) []int { return append(append([]int(nil), path...), step) }
