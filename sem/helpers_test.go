package sem_test

import (
	"fmt"
	"strings"
	"testing"

	"cupel/api"
	"cupel/sem"
	"cupel/syntax"
)

const enough = api.MaxSteps

func read(t *testing.T, text string) api.Program {
	t.Helper()
	p, at, e := syntax.Parse(text)
	if e != api.OK {
		t.Fatalf("Parse(%q): error %d at %d", text, e, at)
	}
	return p
}

func text(p api.Program) string {
	s, _ := syntax.Print(p)
	return s
}

// show writes a behaviour shortly: what is printed, how it ends, and where.
func show(b api.Behaviour, place []int) string {
	ends := map[[2]int]string{
		{api.EnDone, 0}:                "done",
		{api.EnTrap, api.TrDivide}:     "divide",
		{api.EnTrap, api.TrIndex}:      "index",
		{api.EnTrap, api.TrStated}:     "stated",
		{api.EnUndefined, api.UdShift}: "shift",
		{api.EnUndefined, api.UdLeast}: "least",
		{api.EnSteps, 0}:               "steps",
	}
	words := strings.Fields(strings.Trim(fmt.Sprint(b.Out), "[]"))
	end, ok := ends[[2]int{b.End, b.Code}]
	if !ok {
		end = fmt.Sprintf("end %d, code %d", b.End, b.Code)
	}
	words = append(words, end)
	if len(place) > 0 {
		words = append(words, fmt.Sprint(place))
	}
	return strings.Join(words, " ")
}

// runs are programs and what they do, as show writes it.
type runs []struct{ text, want string }

// check runs the programs with all steps.
func (list runs) check(t *testing.T) {
	t.Helper()
	for _, c := range list {
		b, _, place, e := sem.Run(read(t, c.text), enough)
		if got := show(b, place); e != api.OK || got != c.want {
			t.Errorf("%s\ndoes %s (error %d), want %s", c.text, got, e, c.want)
		}
	}
}

// inMain makes programs of statements: of a function main of its own, before what else there is.
func (list runs) inMain(around string) runs {
	out := append(runs{}, list...)
	for i := range out {
		out[i].text = "func main() { " + out[i].text + " } " + around
	}
	return out
}

// places returns where a program ends with 0 steps, with 1, and so on, until it ends otherwise: all that begins, in order.
func places(t *testing.T, p api.Program) []string {
	t.Helper()
	var out []string
	for n := range enough {
		b, used, place, e := sem.Run(p, n)
		if e != api.OK || used > n {
			t.Fatalf("%s\nwith %d steps: error %d, %d steps", text(p), n, e, used)
		}
		if used < n || b.End != api.EnSteps {
			return out
		}
		out = append(out, strings.Trim(fmt.Sprint(place), "[]"))
	}
	return out
}

// wrongPrograms are programs for which syntax.Check returns an error; some contain themselves.
func wrongPrograms() []api.Program {
	endlessArgs := make([]api.Expr, 1)
	endlessArgs[0] = api.Expr{Kind: api.ExUnary, Op: api.UnNeg, Args: endlessArgs}
	endlessBlock := make([]api.Stmt, 1)
	endlessBlock[0] = api.Stmt{Kind: api.StIf, Exprs: []api.Expr{{Kind: api.ExBool}}, Body: endlessBlock, Else: endlessBlock}
	return []api.Program{
		withBody(endlessBlock...),
		withBody(api.Stmt{Kind: api.StPrint, Exprs: endlessArgs}),
		withBody(make([]api.Stmt, 1)...),
		withBody(make([]api.Stmt, 400)...),
		withBody(api.Stmt{Kind: api.StPrint}),
		withBody(api.Stmt{Kind: 99}),
		withBody(api.Stmt{Kind: api.StPrint, Exprs: []api.Expr{{Kind: api.ExBinary, Op: api.BiLor + 1, Args: make([]api.Expr, 2)}}}),
		{Funcs: make([]api.Func, 9)},
		{Funcs: []api.Func{{Name: "main", Result: 4}}},
		{Globals: []api.Global{{Name: "g"}}, Funcs: []api.Func{{Name: "main"}}},
	}
}

func withBody(list ...api.Stmt) api.Program {
	return api.Program{Funcs: []api.Func{{Name: "main", Body: list}}}
}
