package lower_test

import (
	"math/rand/v2"
	"strings"
	"testing"

	"cupel/api"
	"cupel/ir"
	"cupel/lower"
	"cupel/syntax"
)

func read(t *testing.T, text string) api.Program {
	t.Helper()
	p, at, e := syntax.Parse(text)
	if e != api.OK {
		t.Fatalf("Parse(%q): error %d at %d", text, e, at)
	}
	return p
}

func text(p api.Program) string {
	s, _ := syntax.Print(p)
	return s
}

// with are limits with these faults.
func with(faults ...int) api.Limit { return api.Limit{Most: -1, Faults: faults} }

// lowered returns the canonical text of the module of a program.
func lowered(t *testing.T, p api.Program, faults ...int) string {
	t.Helper()
	m, e := lower.Lower(p, with(faults...))
	if e != api.OK {
		t.Fatalf("%s\nLower: error %d", text(p), e)
	}
	s, e := ir.Print(m)
	if e != api.OK {
		t.Fatalf("%s\nis lowered to a module that is not valid: error %d\n%+v", text(p), e, m)
	}
	return s
}

// codes are statements of a function main, and how its registers and its code look, in one line. Around are the faults and what stands before main.
type codes struct {
	faults []int
	before string
	rows   []struct{ body, want string }
}

func (c codes) check(t *testing.T) {
	t.Helper()
	for _, row := range c.rows {
		s := lowered(t, read(t, c.before+" func main() { "+row.body+" }"), c.faults...)
		_, s, _ = strings.Cut(s, "func main params 0 regs ")
		if got := inLine(s); got != inLine(row.want) {
			t.Errorf("%s\nis\n%s\nwant\n%s", row.body, got, inLine(row.want))
		}
	}
}

// inLine writes a text with one blank between two words, without the } at its end.
func inLine(s string) string {
	return strings.Join(strings.Fields(strings.TrimSuffix(strings.TrimSpace(s), "}")), " ")
}

// random draws numbers, always the same ones.
func random(seed uint64) *rand.Rand { return rand.New(rand.NewPCG(seed, 9)) }

// wrongPrograms are programs for which syntax.Check returns an error; some contain themselves.
func wrongPrograms() []api.Program {
	endlessArgs := make([]api.Expr, 1)
	endlessArgs[0] = api.Expr{Kind: api.ExUnary, Op: api.UnNeg, Args: endlessArgs}
	endlessBlock := make([]api.Stmt, 1)
	endlessBlock[0] = api.Stmt{Kind: api.StIf, Exprs: []api.Expr{{Kind: api.ExBool}}, Body: endlessBlock, Else: endlessBlock}
	return []api.Program{
		withBody(endlessBlock...),
		withBody(api.Stmt{Kind: api.StPrint, Exprs: endlessArgs}),
		withBody(make([]api.Stmt, 1)...),
		withBody(make([]api.Stmt, 400)...),
		withBody(api.Stmt{Kind: api.StPrint}),
		withBody(api.Stmt{Kind: 99}),
		withBody(api.Stmt{Kind: api.StPrint, Exprs: []api.Expr{{Kind: 99}}}),
		withBody(api.Stmt{Kind: api.StPrint, Exprs: []api.Expr{{Kind: api.ExBinary, Op: api.BiLor + 1, Args: make([]api.Expr, 2)}}}),
		withBody(api.Stmt{Kind: api.StWhile, Exprs: []api.Expr{{Kind: api.ExBool}}}),
		{Funcs: make([]api.Func, 9)},
		{Funcs: []api.Func{{Name: "main", Result: 4}}},
		{Globals: []api.Global{{Name: "g"}}, Funcs: []api.Func{{Name: "main"}}},
	}
}

func withBody(list ...api.Stmt) api.Program {
	return api.Program{Funcs: []api.Func{{Name: "main", Body: list}}}
}
