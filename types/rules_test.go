package types_test

import (
	"fmt"
	"math"
	"reflect"
	"slices"
	"sync"
	"testing"

	"cupel/api"
	"cupel/syntax"
	"cupel/types"
)

// answers is what all functions answer, in one text.
func answers(p api.Program, path []int, f int) string {
	flaw, e1 := types.Check(p)
	typ, e2 := types.TypeOf(p, path)
	names, e3 := types.Names(p, path)
	calls, order, e4 := types.Calls(p)
	reads, writes, e5 := types.Uses(p, f)
	return fmt.Sprint(flaw, e1, typ, e2, names, e3, calls, order, e4, reads, writes, e5)
}

// expectNothing expects the same error of all functions but Check, and no other result.
func expectNothing(t *testing.T, p api.Program, path []int, f int, want api.Errno) {
	t.Helper()
	typ, e := types.TypeOf(p, path)
	if e != want || typ != (api.Type{}) {
		t.Errorf("TypeOf %v: %v, %d, want %d", path, typ, e, want)
	}
	names, e := types.Names(p, path)
	if e != want || len(names) != 0 {
		t.Errorf("Names %v: %v, %d, want %d", path, names, e, want)
	}
	calls, order, e := types.Calls(p)
	if e != want || len(calls)+len(order) != 0 {
		t.Errorf("Calls: %v, %v, %d, want %d", calls, order, e, want)
	}
	reads, writes, e := types.Uses(p, f)
	if e != want || len(reads)+len(writes) != 0 {
		t.Errorf("Uses %d: %v, %v, %d, want %d", f, reads, writes, e, want)
	}
}

// P1, R1 and R2: the error of syntax.Check comes first, also where programs contain themselves.
func TestWrongPrograms(t *testing.T) {
	for _, p := range wrongPrograms() {
		for _, path := range [][]int{{0, 0}, {0, 0, 2}, {9}, nil} {
			expectNothing(t, p, path, len(path)-2, syntax.Check(p))
		}
	}
	flawedToo := read(t, "func main() { print x; } func main() { }")
	flawedToo.Funcs[0].Result = -1
	expectNothing(t, flawedToo, nil, -1, api.ErrArg)
}

// P2.1, R2: ErrDown for programs with a flaw, of each phase, comes before ErrNone.
func TestFlawedPrograms(t *testing.T) {
	for _, text := range []string{
		"global g: int; global g: int; func main() { print g; }",
		"func f(x: int, x: int) { } func main() { print 1; }",
		"",
		"func f() { print 1; }",
		"func main() { print x; }",
		"func main() { print 1; break; }",
		"func main() { print 1; main(); }",
		"func f(a: int[2], b: int[2]) { } func main() { let a: int[2]; f(a, a); }",
		"func main() { let x: int; print x; }",
		"func main() { print 1; } func f(): int { }",
	} {
		for _, path := range [][]int{{0, 0}, {0, 0, 2}, {9}, nil} {
			expectNothing(t, read(t, text), path, len(path)-2, api.ErrDown)
		}
	}
}

// P1, R1: paths and indices of all sorts.
func TestAllArguments(t *testing.T) {
	p := read(t, typical)
	steps := []int{math.MinInt, -1, 0, 1, 2, 3, 4, 8, 400, math.MaxInt}
	paths := [][]int{nil, make([]int, 100000), slices.Repeat([]int{2}, 100000)}
	for _, a := range steps {
		paths = append(paths, []int{a})
		for _, b := range steps {
			paths = append(paths, []int{a, b})
			for _, c := range steps {
				paths = append(paths, []int{a, b, c}, []int{2, a, b, c}, []int{2, 3, 0, a, b, c}, []int{2, 2, a, b, c}, []int{0, 0, a, b, c})
			}
		}
	}
	for _, path := range paths {
		typ, e := types.TypeOf(p, path)
		n, f := syntax.At(p, path)
		if isExpr := f == api.OK && n.Kind == api.NdExpr; isExpr != (e == api.OK) || !isExpr && (e != api.ErrNone || typ != api.Type{}) {
			t.Errorf("TypeOf %v: %v, %d", path, typ, e)
		}
		names, e := types.Names(p, path)
		_, g := syntax.Insert(p, path, api.Stmt{Kind: api.StTrap})
		if isPlace := g == api.OK || f == api.OK && n.Kind == api.NdExpr; isPlace != (e == api.OK) || !isPlace && (e != api.ErrNone || len(names) != 0) {
			t.Errorf("Names %v: %v, %d", path, names, e)
		}
	}
}

// P1, R3: arguments are not changed.
func TestArgumentsStay(t *testing.T) {
	for _, text := range []string{typical, scoped, "func main() { print x; }", "func f(): int { } func main() { let a: int[2]; a[0] = 1; }"} {
		p, path := read(t, text), []int{0, 0, 2}
		long := append(path, 7)[:3]
		answers(p, long, 0)
		if !reflect.DeepEqual(p, read(t, text)) || !slices.Equal(long[:4], []int{0, 0, 2, 7}) {
			t.Errorf("%s: an argument is changed", text)
		}
	}
}

// P1, R3: results have memory of their own, also behind their ends.
func TestResultsApart(t *testing.T) {
	p := read(t, typical)
	calls, order, _ := types.Calls(p)
	reads, writes, _ := types.Uses(p, 2)
	lists := append(calls, order, reads, writes)
	before := fmt.Sprint(lists)
	for i, list := range lists {
		kept := slices.Clone(list)
		for j := range list[:cap(list)] {
			list[:cap(list)][j] = -7
		}
		lists[i] = kept
		if got := fmt.Sprint(lists); got != before {
			t.Errorf("list %d: %s became %s", i, before, got)
		}
	}
	for _, path := range [][]int{{0, 0}, {2, 3, 0, 0, 0, 0}, {2, 3, 2}} {
		names, _ := types.Names(p, path)
		want := show(names)
		for i := range names[:cap(names)] {
			names[:cap(names)][i] = api.Known{Name: "?"}
		}
		if again, _ := types.Names(p, path); show(again) != want {
			t.Errorf("Names %v: %s became %s", path, want, show(again))
		}
	}
	bad := read(t, "func main() { print 1 + x; }")
	flaw, _ := types.Check(bad)
	clear(flaw.Path[:cap(flaw.Path)])
	if again, _ := types.Check(bad); fmt.Sprint(again.Path) != "[0 0 2 1]" {
		t.Errorf("Check: %v", again)
	}
}

// P1, R4: lists that are empty mean the same as nil.
func TestEmptyLists(t *testing.T) {
	for _, text := range []string{typical, scoped, "", "func main() { }", "func f(): int { if true { } else { } } func main() { }"} {
		p, q := read(t, text), read(t, text)
		q.Globals, q.Funcs = append([]api.Global{}, q.Globals...), append([]api.Func{}, q.Funcs...)
		for i := range q.Funcs {
			f := &q.Funcs[i]
			f.Params, f.Body = append([]api.Param{}, f.Params...), withEmptyLists(f.Body)
		}
		for _, path := range append(places(p), []int{0, 0, 2}, []int{}) {
			if got, want := answers(q, path, 0), answers(p, path, 0); got != want {
				t.Errorf("%s\nwith empty lists: %s, want %s", text, got, want)
			}
		}
	}
	if got, want := answers(read(t, typical), []int{}, 1), answers(read(t, typical), nil, 1); got != want {
		t.Errorf("an empty path: %s, want %s", got, want)
	}
}

func withEmptyLists(list []api.Stmt) []api.Stmt {
	out := []api.Stmt{}
	for _, s := range list {
		s.Exprs, s.Body, s.Else = append([]api.Expr{}, s.Exprs...), withEmptyLists(s.Body), withEmptyLists(s.Else)
		for i, x := range s.Exprs {
			s.Exprs[i].Args = append([]api.Expr{}, x.Args...)
		}
		out = append(out, s)
	}
	return out
}

// P1, R6: answers depend on the arguments alone, also when many ask at once.
func TestAtOnce(t *testing.T) {
	texts := []string{typical, scoped, "func main() { print x; }"}
	var ps []api.Program
	var want []string
	for _, text := range texts {
		p := read(t, text)
		ps, want = append(ps, p), append(want, answers(p, []int{0, 1, 2}, 1))
	}
	var wait sync.WaitGroup
	for range 8 {
		wait.Go(func() {
			for i := range 60 {
				if got := answers(ps[i%3], []int{0, 1, 2}, 1); got != want[i%3] {
					t.Errorf("%s, want %s", got, want[i%3])
				}
			}
		})
	}
	wait.Wait()
}
