package syntax_test

import (
	"reflect"
	"sync"
	"testing"

	"cupel/api"
	"cupel/syntax"
)

// P1, R3: arguments are not changed, and results have memory of their own.
func TestMemory(t *testing.T) {
	args := func() (api.Program, api.Node, api.Stmt) {
		n, _ := syntax.At(read(t, whole), []int{0, 3})
		return read(t, whole), n, n.Stmt
	}
	p, n, s := args()
	intact := func(what string) {
		t.Helper()
		q, m, r := args()
		if !reflect.DeepEqual(p, q) || !reflect.DeepEqual(n, m) || !reflect.DeepEqual(s, r) {
			t.Fatalf("%s: an argument is changed", what)
		}
	}
	results := map[string]func() (api.Program, api.Errno){
		"Replace": func() (api.Program, api.Errno) { return syntax.Replace(p, []int{0, 0}, n) },
		"Delete":  func() (api.Program, api.Errno) { return syntax.Delete(p, []int{0, 0}) },
		"Insert":  func() (api.Program, api.Errno) { return syntax.Insert(p, []int{0, 3}, s) },
	}
	for what, call := range results {
		q, e := call()
		intact(what)
		spoil(q)
		intact(what)
		if e != api.OK {
			t.Errorf("%s: %d", what, e)
		}
	}
	for _, path := range [][]int{{0}, {0, 3}, {1, 0, 2}} {
		m, _ := syntax.At(p, path)
		spoilFunc(m.Func)
		spoilStmts([]api.Stmt{m.Stmt})
		spoilExprs([]api.Expr{m.Expr})
		intact("At")
	}
	syntax.Check(p)
	syntax.Print(p)
	syntax.Size(p)
	syntax.Same(p, p)
	intact("the others")
}

// P1, R3: a node that stands twice in what is put in is there twice in the result.
func TestSharedNodes(t *testing.T) {
	args := []api.Expr{name("x")}
	x := api.Expr{Kind: api.ExUnary, Op: api.UnNeg, Args: args}
	sum := api.Expr{Kind: api.ExBinary, Op: api.BiAdd, Args: []api.Expr{x, x}}
	q, e := syntax.Replace(read(t, "func f() { print 1; }"), []int{0, 0, 2}, api.Node{Kind: api.NdExpr, Expr: sum})
	same(t, "Replace", q, e, "func f() { print -x + -x; }")
	q.Funcs[0].Body[0].Exprs[0].Args[0].Args[0].Name = "y"
	args[0].Name = "z"
	same(t, "Replace", q, e, "func f() { print -y + -x; }")
}

// P1, R3: paths of one result share no memory.
func TestPathMemory(t *testing.T) {
	p := read(t, whole)
	paths, _ := syntax.Places(p)
	spans, _ := syntax.Spans(p)
	for _, x := range spans {
		paths = append(paths, x.Path)
	}
	want := make([]string, len(paths))
	for i, path := range paths {
		want[i] = pathText(path)
	}
	for i, path := range paths {
		if got := pathText(path); got != want[i] {
			t.Errorf("%s became %s", want[i], got)
		}
		whole := path[:cap(path)]
		for j := range whole {
			whole[j] = -7
		}
	}
}

// P1, R4: empty lists mean the same as nil.
func TestEmptyLists(t *testing.T) {
	fill := func(p api.Program) api.Program {
		for i := range p.Funcs {
			if f := &p.Funcs[i]; f.Params == nil {
				f.Params = []api.Param{}
			}
			for j := range p.Funcs[i].Body {
				s := &p.Funcs[i].Body[j]
				s.Body, s.Else = append([]api.Stmt{}, s.Body...), append([]api.Stmt{}, s.Else...)
				s.Exprs = append([]api.Expr{}, s.Exprs...)
				for k := range s.Exprs {
					s.Exprs[k].Args = append([]api.Expr{}, s.Exprs[k].Args...)
				}
			}
		}
		return p
	}
	p, q := read(t, sample), fill(read(t, sample))
	if syntax.Check(q) != api.OK || !syntax.Same(p, q) || !syntax.Same(q, p) || text(t, p) != text(t, q) || syntax.Size(p) != syntax.Size(q) {
		t.Error("empty lists")
	}
	empty := api.Program{Globals: []api.Global{}, Funcs: []api.Func{}}
	if syntax.Check(empty) != api.OK || text(t, empty) != "" {
		t.Error("an empty program")
	}
	n := api.Node{Kind: api.NdExpr, Expr: number(1), Func: api.Func{Params: []api.Param{}, Body: []api.Stmt{}}, Stmt: api.Stmt{Exprs: []api.Expr{}, Body: []api.Stmt{}, Else: []api.Stmt{}}}
	if r, e := syntax.Replace(q, []int{0, 0, 2}, n); e != api.OK || !syntax.Same(p, r) {
		t.Errorf("Replace: %d", e)
	}
	n = api.Node{Kind: api.NdStmt, Stmt: api.Stmt{Kind: api.StTrap}, Expr: api.Expr{Args: []api.Expr{}}}
	if _, e := syntax.Replace(q, []int{0, 0}, n); e != api.OK {
		t.Errorf("Replace: %d", e)
	}
}

// P1, R6: results depend on the arguments alone, also when many ask at once.
func TestAtOnce(t *testing.T) {
	p := read(t, whole)
	var wait sync.WaitGroup
	for range 8 {
		wait.Go(func() {
			for range 20 {
				if s, e := syntax.Print(p); s != whole || e != api.OK {
					t.Errorf("Print: %d", e)
				}
				if q, _, e := syntax.Parse(whole); e != api.OK || !syntax.Same(p, q) {
					t.Errorf("Parse: %d", e)
				}
			}
		})
	}
	wait.Wait()
}

// P1, R1: all functions return for lists that contain themselves.
func TestAllReturn(t *testing.T) {
	endless := body(endlessStmt(), api.Stmt{Kind: api.StPrint, Exprs: []api.Expr{endlessExpr()}})
	good := read(t, sample)
	for _, path := range [][]int{nil, {0}, {0, 0}, {0, 0, 0, 0, 0, 0, 0, 0}, {0, 1, 2, 0, 0, 0}} {
		_, e := syntax.At(endless, path)
		_, f := syntax.Replace(endless, path, api.Node{Kind: api.NdStmt, Stmt: endlessStmt()})
		_, g := syntax.Delete(endless, path)
		_, h := syntax.Insert(endless, path, endlessStmt())
		if e != api.ErrLong || f != api.ErrLong || g != api.ErrLong || h != api.ErrLong {
			t.Errorf("%v: %d, %d, %d, %d", path, e, f, g, h)
		}
	}
	_, e := syntax.Print(endless)
	_, f := syntax.Spans(endless)
	_, g := syntax.Places(endless)
	if e != api.ErrLong || f != api.ErrLong || g != api.ErrLong || syntax.Size(endless) != 0 {
		t.Errorf("%d, %d, %d", e, f, g)
	}
	for n, want := range map[int]api.Errno{api.NdFunc: api.ErrLong, api.NdStmt: api.ErrArg, api.NdExpr: api.ErrArg} {
		node := api.Node{Kind: n, Func: api.Func{Name: "f", Body: []api.Stmt{endlessStmt()}}}
		if _, e := syntax.Replace(good, []int{0}, node); e != want {
			t.Errorf("Replace: %d", e)
		}
	}
}
