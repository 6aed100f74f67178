package defined_test

import (
	"fmt"
	"math"
	"reflect"
	"slices"
	"sync"
	"testing"

	"cupel/api"
	"cupel/defined"
	"cupel/syntax"
	"cupel/types"
)

const typical = "global g: int = 3; global a: int[2]; func f(b: int[2], x: int): int { b[x] = g; return b[x] / x; } func main() { let n: int = 0; for i in 0 .. 2 { if i == 1 { n = f(a, i); } else { print 1 << n; } } while n > 0 upto 5 { n = n - 1; } print a[n]; print 9 / n; print 1 << n * 30; }"

// answers is what Prove and Values answer, in one text.
func answers(p api.Program, path []int) string {
	x, e := defined.Prove(p)
	r, some, f := defined.Values(p, path)
	return fmt.Sprint(showProof(x), e, r, some, f)
}

// wrongPrograms are programs for which syntax.Check returns an error; some contain themselves.
func wrongPrograms() []api.Program {
	endlessArgs := make([]api.Expr, 1)
	endlessArgs[0] = api.Expr{Kind: api.ExUnary, Op: api.UnNeg, Args: endlessArgs}
	endlessBlock := make([]api.Stmt, 1)
	endlessBlock[0] = api.Stmt{Kind: api.StWhile, Bound: 3, Exprs: []api.Expr{{Kind: api.ExBool, Int: 1}}, Body: endlessBlock}
	inMain := func(list ...api.Stmt) api.Program { return api.Program{Funcs: []api.Func{{Name: "main", Body: list}}} }
	return []api.Program{
		inMain(endlessBlock...),
		inMain(api.Stmt{Kind: api.StPrint, Exprs: endlessArgs}),
		inMain(make([]api.Stmt, 1)...),
		inMain(make([]api.Stmt, 400)...),
		inMain(api.Stmt{Kind: api.StPrint}),
		inMain(api.Stmt{Kind: 99}),
		inMain(api.Stmt{Kind: api.StPrint, Exprs: []api.Expr{{Kind: api.ExBinary, Op: api.BiLor + 1, Args: make([]api.Expr, 2)}}}),
		{Globals: make([]api.Global, 9)},
		{Funcs: []api.Func{{Name: "main", Result: 4}}},
		{Globals: []api.Global{{Name: "g"}}, Funcs: []api.Func{{Name: "main"}}},
	}
}

// P1, R1 and R2: the error of syntax.Check comes first, also where programs contain themselves.
func TestWrongPrograms(t *testing.T) {
	for i, p := range wrongPrograms() {
		for _, path := range [][]int{{0, 0, 2}, {0, 0}, nil} {
			want := fmt.Sprint(showProof(api.Proof{}), syntax.Check(p), api.Range{}, false, syntax.Check(p))
			if got := answers(p, path); got != want || syntax.Check(p) == api.OK {
				t.Errorf("program %d: %s, want %s", i, got, want)
			}
		}
	}
}

// P5.1, P5.2, R2: ErrDown for programs with a flaw, of each phase, comes before ErrNone.
func TestFlawedPrograms(t *testing.T) {
	for _, text := range []string{
		"global g: int; global g: int; func main() { print g; }",
		"func f(x: int, x: int) { } func main() { print 1; }",
		"",
		"func f() { print 1; }",
		"func main() { print x; }",
		"func main() { print 1; break; }",
		"func main() { print 1; main(); }",
		"func f(a: int[2], b: int[2]) { } func main() { let a: int[2]; f(a, a); }",
		"func main() { let x: int; print x; }",
		"func main() { print 1; } func f(): int { }",
	} {
		for _, path := range [][]int{{0, 0, 2}, {0, 0}, {9}, nil} {
			want := fmt.Sprint(showProof(api.Proof{}), api.ErrDown, api.Range{}, false, api.ErrDown)
			if got := answers(read(t, text), path); got != want {
				t.Errorf("%s: %s, want %s", text, got, want)
			}
		}
	}
}

// P5.2, P1, R1: ErrNone for all paths but those of expressions of a scalar type.
func TestAllPaths(t *testing.T) {
	p := read(t, typical)
	steps := []int{math.MinInt, -1, 0, 1, 2, 3, 4, 8, 400, math.MaxInt}
	list := [][]int{nil, make([]int, 100000), slices.Repeat([]int{1}, 100000)}
	for _, a := range steps {
		list = append(list, []int{a})
		for _, b := range steps {
			list = append(list, []int{a, b}, []int{1, 1, 0, 0, 0, 0, a, b})
			for _, c := range steps {
				list = append(list, []int{a, b, c}, []int{1, 1, a, b, c}, []int{1, 1, 0, 0, a, b, c})
			}
		}
	}
	scalars := 0
	for _, path := range append(list, paths(p)...) {
		r, some, e := defined.Values(p, path)
		typ, f := types.TypeOf(p, path)
		isScalar := f == api.OK && typ.Kind > 0 && typ.Len == 0
		if isScalar != (e == api.OK) || !isScalar && (e != api.ErrNone || some) || !some && r != (api.Range{}) {
			t.Errorf("Values %v: %v, %v, %d", path, r, some, e)
		}
		if isScalar {
			scalars++
		}
	}
	if scalars < 40 {
		t.Errorf("%d paths of scalars", scalars)
	}
}

// P5.2: calls without a result, and arrays, have no values.
func TestNoScalars(t *testing.T) {
	p := read(t, "func f(a: int[2]) { a[0] = 1; } func main() { let a: int[2]; f(a); print a[1]; }")
	for _, path := range [][]int{{1, 1, 2}, {1, 1, 2, 0}, {1, 1}, {1}, {1, 2, 3}, {1, 2, 2, 1}, {1, 2, 2, 0, 0}, {1, 3}, {2}, {-1}, {}} {
		if r, some, e := defined.Values(p, path); e != api.ErrNone || some || r != (api.Range{}) {
			t.Errorf("Values %v: %v, %v, %d", path, r, some, e)
		}
	}
}

// P1, R3: arguments are not changed.
func TestArgumentsStay(t *testing.T) {
	p, path := read(t, typical), []int{1, 3, 2}
	long := append(path, 7)[:3]
	answers(p, long)
	if !reflect.DeepEqual(p, read(t, typical)) || !slices.Equal(long[:4], []int{1, 3, 2, 7}) {
		t.Error("an argument is changed")
	}
}

// P1, R3: results have memory of their own, also behind their ends.
func TestResultsApart(t *testing.T) {
	const both = "func f(n: int) { print 1 << n; print (n - 9223372036854775807 - 1) / (n - 1); } func main() { for i in 0 .. 9 { f(i); } print 1 / (g() - 1); } func g(): int { for i in 0 .. 2 { return i; } return 0; }"
	for _, text := range []string{typical, both} {
		p := read(t, text)
		want := answers(p, nil)
		x, _ := defined.Prove(p)
		lists := append(slices.Clone(x.Traps), x.At)
		if len(x.Traps) < 2 || x.Defined || !slices.ContainsFunc(x.Traps, func(path []int) bool { return text == typical || slices.Equal(path, x.At) }) {
			t.Fatalf("%s: %s", text, showProof(x))
		}
		for i, path := range lists {
			others := fmt.Sprint(lists[:i], lists[i+1:])
			for j := range path[:cap(path)] {
				path[:cap(path)][j] = -7
			}
			if got := fmt.Sprint(lists[:i], lists[i+1:]); got != others {
				t.Errorf("%s\nlist %d: %s became %s", text, i, others, got)
			}
		}
		if got := answers(p, nil); got != want {
			t.Errorf("%s\n%s became %s", text, want, got)
		}
	}
}

// P1, R4: lists that are empty mean the same as nil.
func TestEmptyLists(t *testing.T) {
	for _, text := range []string{typical, "func main() { }", "func main() { while true upto 2 { } if true { } return; }"} {
		p, q := read(t, text), read(t, text)
		q.Globals = append([]api.Global{}, q.Globals...)
		for i := range q.Funcs {
			f := &q.Funcs[i]
			f.Params, f.Body = append([]api.Param{}, f.Params...), withEmptyLists(f.Body)
		}
		for _, path := range append(paths(p), nil, []int{}) {
			if got, want := answers(q, path), answers(p, path); got != want {
				t.Errorf("%s\nwith empty lists: %s, want %s", text, got, want)
			}
		}
	}
}

func withEmptyLists(list []api.Stmt) []api.Stmt {
	out := []api.Stmt{}
	for _, s := range list {
		s.Exprs, s.Body, s.Else = append([]api.Expr{}, s.Exprs...), withEmptyLists(s.Body), withEmptyLists(s.Else)
		for i, x := range s.Exprs {
			s.Exprs[i].Args = append([]api.Expr{}, x.Args...)
		}
		out = append(out, s)
	}
	return out
}

// P1, R6: nodes that share their memory are different places.
func TestSharedNodes(t *testing.T) {
	p := read(t, "func f(n: int) { print n + n; } func main() { f(1); g(0); } func g(n: int) { }")
	p.Funcs[2].Body = p.Funcs[0].Body
	args := p.Funcs[0].Body[0].Exprs[0].Args
	p.Funcs[2].Body = append(p.Funcs[2].Body[:1:1],
		api.Stmt{Kind: api.StSet, Name: "n", Exprs: []api.Expr{{Kind: api.ExInt, Int: 7}}},
		api.Stmt{Kind: api.StPrint, Exprs: []api.Expr{{Kind: api.ExBinary, Op: api.BiDiv, Args: args}}},
		p.Funcs[0].Body[0])
	for _, c := range []struct {
		path []int
		want string
	}{
		{[]int{0, 0, 2}, "2"}, {[]int{0, 0, 2, 0}, "1"}, {[]int{2, 0, 2}, "0"}, {[]int{2, 0, 2, 1}, "0"}, {[]int{2, 2, 2}, "1"}, {[]int{2, 2, 2, 1}, "7"}, {[]int{2, 3, 2}, "14"},
	} {
		r, some, e := defined.Values(p, c.path)
		if got := showRange(r, some); got != c.want || e != api.OK {
			t.Errorf("%v: %s, error %d, want %s", c.path, got, e, c.want)
		}
	}
	p.Funcs[2].Body = p.Funcs[2].Body[2:]
	if x, e := defined.Prove(p); showProof(x) != "traps 2 0 2" || e != api.OK {
		t.Errorf("%s, error %d", showProof(x), e)
	}
}

// P1, R6: answers depend on the arguments alone, also when many ask at once.
func TestAtOnce(t *testing.T) {
	var ps []api.Program
	var want []string
	for _, text := range []string{typical, "global g: int; func main() { g = g + 1; print 5 / g; }", "func main() { print x; }"} {
		p := read(t, text)
		ps, want = append(ps, p), append(want, answers(p, []int{1, 3, 2}))
	}
	var wait sync.WaitGroup
	for range 8 {
		wait.Go(func() {
			for i := range 60 {
				if got := answers(ps[i%3], []int{1, 3, 2}); got != want[i%3] {
					t.Errorf("%s, want %s", got, want[i%3])
				}
			}
		})
	}
	wait.Wait()
}
