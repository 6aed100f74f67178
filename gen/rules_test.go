package gen_test

import (
	"fmt"
	"reflect"
	"sync"
	"testing"

	"cupel/api"
	"cupel/gen"
)

// P6.1, P6.2, P6.3, R2 and R4 are tested with the promises; here are the rules that concern memory and state.

const undefinedTwice = "global g: int = 7; global a: int[2]; func f(b: int[2], x: int): int { b[0] = g; return b[1] << x; } func main() { let c: int[2]; if g > 3 { print f(c, 64); } else { print 1; } for i in 0 .. 2 { while true upto 3 { print g >> 65; break; } } a[1] = 3; }"

const definedAlready = "global g: int = 7; global a: int[2]; func f(b: int[2], x: int): int { b[0] = g; return b[1] << x; } func main() { let c: int[2]; if g > 3 { print f(c, 63); } else { print 1; } for i in 0 .. 2 { while true upto 3 { print g >> 5; break; } } a[1] = 3; }"

// spoil changes all that a program consists of, in its memory, also behind the ends of its lists.
func spoil(p api.Program) {
	for i := range p.Globals[:cap(p.Globals)] {
		p.Globals[:cap(p.Globals)][i] = api.Global{Name: "spoilt"}
	}
	for i := range p.Funcs[:cap(p.Funcs)] {
		f := &p.Funcs[:cap(p.Funcs)][i]
		for j := range f.Params[:cap(f.Params)] {
			f.Params[:cap(f.Params)][j] = api.Param{Name: "spoilt"}
		}
		spoilStmts(f.Body)
		*f = api.Func{Name: "spoilt"}
	}
}

func spoilStmts(list []api.Stmt) {
	list = list[:cap(list)]
	for i := range list {
		spoilExprs(list[i].Exprs)
		spoilStmts(list[i].Body)
		spoilStmts(list[i].Else)
		list[i] = api.Stmt{Name: "spoilt"}
	}
}

func spoilExprs(list []api.Expr) {
	list = list[:cap(list)]
	for i := range list {
		spoilExprs(list[i].Args)
		list[i] = api.Expr{Name: "spoilt"}
	}
}

// P1, R3: Guard neither changes its argument, nor shares memory with it, whether it changes something or not.
func TestGuardApart(t *testing.T) {
	for _, s := range []string{undefinedTwice, definedAlready, "func main() { }"} {
		p := read(t, s)
		q, e := gen.Guard(p)
		if !reflect.DeepEqual(p, read(t, s)) || e != api.OK {
			t.Errorf("%s\nbecame, error %d\n%s", s, e, text(p))
		}
		want := text(q)
		if (want == text(p)) != (s != undefinedTwice) {
			t.Errorf("%s\n%s", s, want)
		}
		spoil(p)
		if text(q) != want {
			t.Errorf("%s\nbecame\n%s", want, text(q))
		}
		p = read(t, s)
		spoil(q)
		if !reflect.DeepEqual(p, read(t, s)) {
			t.Errorf("%s\nbecame\n%s", s, text(p))
		}
	}
}

// P1, R3: no two lists of a result share memory: a node that is changed is changed alone.
func TestListsApart(t *testing.T) {
	plans(300, func(x api.Plan) {
		p, _ := gen.Generate(x)
		seen := map[*api.Expr]bool{}
		blocks := map[*api.Stmt]bool{}
		for _, f := range p.Funcs {
			if !stmtsApart(f.Body, blocks, seen) {
				t.Errorf("%v: lists share memory\n%s", x, text(p))
			}
		}
	})
}

func stmtsApart(list []api.Stmt, blocks map[*api.Stmt]bool, exprs map[*api.Expr]bool) bool {
	apart := true
	for i := range list[:cap(list)] {
		s := &list[:cap(list)][i]
		apart = apart && !blocks[s]
		blocks[s] = true
		apart = exprsApart(s.Exprs, exprs) && stmtsApart(s.Body, blocks, exprs) && stmtsApart(s.Else, blocks, exprs) && apart
	}
	return apart
}

func exprsApart(list []api.Expr, exprs map[*api.Expr]bool) bool {
	apart := true
	for i := range list[:cap(list)] {
		x := &list[:cap(list)][i]
		apart = apart && !exprs[x]
		exprs[x] = true
		apart = exprsApart(x.Args, exprs) && apart
	}
	return apart
}

// P1, R3, R6: programs of one plan share no memory, and nothing is kept from one call to the next.
func TestGeneratedApart(t *testing.T) {
	for _, x := range append([]api.Plan{{Seed: 3, Funcs: 4, Stmts: 40, Depth: 3}, {Stmts: 1}, {Seed: 9, Funcs: 2, Stmts: 20, Depth: 2}}, tooLarge...) {
		p, _ := gen.Generate(x)
		q, _ := gen.Generate(x)
		want := text(p)
		spoil(p)
		again, _ := gen.Generate(x)
		if text(q) != want || text(again) != want {
			t.Errorf("%v\n%s\nbecame\n%s\nor\n%s", x, want, text(q), text(again))
		}
	}
}

// P1, R4: lists that are empty mean the same as nil.
func TestEmptyLists(t *testing.T) {
	for _, s := range []string{undefinedTwice, definedAlready, "func main() { }"} {
		p, q := read(t, s), read(t, s)
		q.Globals = append([]api.Global{}, q.Globals...)
		for i := range q.Funcs {
			f := &q.Funcs[i]
			f.Params, f.Body = append([]api.Param{}, f.Params...), withEmptyLists(f.Body)
		}
		x, e := gen.Guard(p)
		y, f := gen.Guard(q)
		if text(x) != text(y) || e != f {
			t.Errorf("%s\nerror %d\n%s\nwith empty lists: error %d\n%s", s, e, text(x), f, text(y))
		}
	}
}

func withEmptyLists(list []api.Stmt) []api.Stmt {
	out := []api.Stmt{}
	for _, s := range list {
		s.Exprs, s.Body, s.Else = append([]api.Expr{}, s.Exprs...), withEmptyLists(s.Body), withEmptyLists(s.Else)
		for i, x := range s.Exprs {
			s.Exprs[i].Args = append([]api.Expr{}, x.Args...)
		}
		out = append(out, s)
	}
	return out
}

// P1, R6: nodes of an argument that share their memory are different places.
func TestSharedNodes(t *testing.T) {
	p := read(t, "func f(n: int) { print 1 << n; } func g(n: int) { } func main() { f(64); g(3); }")
	p.Funcs[1].Body = p.Funcs[0].Body
	guarded, e := gen.Guard(p)
	want := read(t, "func f(n: int) { print 1 << (n & 63); } func g(n: int) { print 1 << n; } func main() { f(64); g(3); }")
	if text(guarded) != text(want) || e != api.OK {
		t.Errorf("error %d\n%s\nwant\n%s", e, text(guarded), text(want))
	}
}

// P1, R6: results depend on the arguments alone, also when many are made at once.
func TestAtOnce(t *testing.T) {
	var list []api.Plan
	var want []string
	plans(40, func(x api.Plan) {
		p, e := gen.Generate(x)
		list, want = append(list, x), append(want, fmt.Sprint(e, text(p)))
	})
	undefined := read(t, undefinedTwice)
	q, _ := gen.Guard(undefined)
	var wait sync.WaitGroup
	for range 8 {
		wait.Go(func() {
			for i, x := range list {
				if p, e := gen.Generate(x); fmt.Sprint(e, text(p)) != want[i] {
					t.Errorf("%v: error %d\n%s\nwant\n%s", x, e, text(p), want[i])
				}
				if p, e := gen.Guard(undefined); e != api.OK || text(p) != text(q) {
					t.Errorf("error %d\n%s\nwant\n%s", e, text(p), text(q))
				}
			}
		})
	}
	wait.Wait()
}
