package rewrite_test

import (
	"fmt"
	"reflect"
	"slices"
	"sync"
	"testing"

	"cupel/api"
	"cupel/rewrite"
	"cupel/syntax"
)

// P1 with the rules of memory and state; those of errors and values are tested with the promises.

// everywhere is a program in which each rule has a site.
const everywhere = "global g: int = 3; global a: int[2]; func f(n: int, v: int[2]): int { return n + 1 + 2; } func main() { let x: int = 1; let y: int = 2; let z: bool; let u: int[2]; if x < y && true { print (x - 1) * 2; } else { u[0] = f(x * 8, u); } for i in 0 .. 3 { print i; if x > i { return; } } f(y, a); while x == y upto 3 { break; } }"

// spoil changes all that a program consists of, in its memory, also behind the ends of its lists.
func spoil(p api.Program) {
	for i := range p.Globals[:cap(p.Globals)] {
		p.Globals[:cap(p.Globals)][i] = api.Global{Name: "spoilt"}
	}
	for i := range p.Funcs[:cap(p.Funcs)] {
		f := &p.Funcs[:cap(p.Funcs)][i]
		for j := range f.Params[:cap(f.Params)] {
			f.Params[:cap(f.Params)][j] = api.Param{Name: "spoilt"}
		}
		spoilStmts(f.Body)
		*f = api.Func{Name: "spoilt"}
	}
}

func spoilStmts(list []api.Stmt) {
	list = list[:cap(list)]
	for i := range list {
		spoilExprs(list[i].Exprs)
		spoilStmts(list[i].Body)
		spoilStmts(list[i].Else)
		list[i] = api.Stmt{Name: "spoilt"}
	}
}

func spoilExprs(list []api.Expr) {
	list = list[:cap(list)]
	for i := range list {
		spoilExprs(list[i].Args)
		list[i] = api.Expr{Name: "spoilt"}
	}
}

func spoilPath(path []int) {
	path = path[:cap(path)]
	for i := range path {
		path[i] = -77
	}
}

// eachSite calls look with a fresh copy of a program for each site of each rule.
func eachSite(t *testing.T, s string, look func(p api.Program, x api.Mutation)) {
	t.Helper()
	for rule := range ruleCount {
		sites, _ := rewrite.Sites(read(t, s), rule)
		if len(sites) == 0 {
			t.Errorf("rule %d has no site", rule)
		}
		for i, path := range sites {
			look(read(t, s), api.Mutation{Rule: rule, At: path, Seed: uint64(i)})
		}
	}
}

// P1, R3: Apply neither changes its arguments, nor do results share memory with them.
func TestApplyApart(t *testing.T) {
	eachSite(t, everywhere, func(p api.Program, x api.Mutation) {
		at := slices.Clone(x.At)
		q, e := rewrite.Apply(p, x)
		if !reflect.DeepEqual(p, read(t, everywhere)) || !slices.Equal(x.At, at) || e != api.OK {
			t.Errorf("%v: error %d, the program became\n%s", x, e, text(p))
		}
		want := text(q)
		spoil(p)
		spoilPath(x.At)
		if text(q) != want {
			t.Errorf("%v\n%s\nbecame\n%s", x, want, text(q))
		}
		p = read(t, everywhere)
		q, _ = rewrite.Apply(p, api.Mutation{Rule: x.Rule, At: at, Seed: x.Seed})
		spoil(q)
		if !reflect.DeepEqual(p, read(t, everywhere)) {
			t.Errorf("%v: the program became\n%s", x, text(p))
		}
	})
}

// P1, R3: no two lists of a result share memory: a node that is changed is changed alone.
func TestListsApart(t *testing.T) {
	eachSite(t, everywhere, func(p api.Program, x api.Mutation) {
		q, _ := rewrite.Apply(p, x)
		if !programApart(q) {
			t.Errorf("%v: lists share memory\n%s", x, text(q))
		}
	})
	for seed := range uint64(20) {
		if q, _, _ := rewrite.Storm(read(t, everywhere), seed, 30); !programApart(q) {
			t.Errorf("seed %d: lists share memory\n%s", seed, text(q))
		}
	}
}

func programApart(p api.Program) bool {
	apart, blocks, exprs := true, map[*api.Stmt]bool{}, map[*api.Expr]bool{}
	for _, f := range p.Funcs {
		apart = stmtsApart(f.Body, blocks, exprs) && apart
	}
	return apart
}

func stmtsApart(list []api.Stmt, blocks map[*api.Stmt]bool, exprs map[*api.Expr]bool) bool {
	apart := true
	for i := range list[:cap(list)] {
		s := &list[:cap(list)][i]
		apart = apart && !blocks[s]
		blocks[s] = true
		apart = exprsApart(s.Exprs, exprs) && stmtsApart(s.Body, blocks, exprs) && stmtsApart(s.Else, blocks, exprs) && apart
	}
	return apart
}

func exprsApart(list []api.Expr, exprs map[*api.Expr]bool) bool {
	apart := true
	for i := range list[:cap(list)] {
		x := &list[:cap(list)][i]
		apart = apart && !exprs[x]
		exprs[x] = true
		apart = exprsApart(x.Args, exprs) && apart
	}
	return apart
}

// P1, R3: Sites does not change its argument, and paths share no memory, neither of one result nor of two.
func TestSitesApart(t *testing.T) {
	p := read(t, everywhere)
	for rule := range ruleCount {
		sites, _ := rewrite.Sites(p, rule)
		want := fmt.Sprint(sites)
		for i := range sites {
			again, _ := rewrite.Sites(p, rule)
			spoilPath(again[i])
			again[i] = slices.Clone(sites[i])
			if fmt.Sprint(again) != want || fmt.Sprint(sites) != want {
				t.Errorf("rule %d: %v, then %v, want %s", rule, sites, again, want)
			}
		}
	}
	if !reflect.DeepEqual(p, read(t, everywhere)) {
		t.Errorf("became\n%s", text(p))
	}
	names := rewrite.Rules()
	for i := range names {
		names[i] = "spoilt"
	}
	if again := rewrite.Rules(); again[0] != "commute" || again[exchange] != "exchange" {
		t.Errorf("%q", again)
	}
}

// P1, R3: Storm neither changes its argument, nor shares memory with it, also if nothing is rewritten; paths share none with each other.
func TestStormApart(t *testing.T) {
	for _, s := range []string{everywhere, various, "func main() { }"} {
		for _, n := range []int{0, 1, 12} {
			p := read(t, s)
			q, list, e := rewrite.Storm(p, 4, n)
			if !reflect.DeepEqual(p, read(t, s)) || e != api.OK {
				t.Errorf("%s\nbecame, error %d\n%s", s, e, text(p))
			}
			want, applied := text(q), fmt.Sprint(list)
			spoil(p)
			if text(q) != want || fmt.Sprint(list) != applied {
				t.Errorf("%s\nbecame\n%s", want, text(q))
			}
			for i := range list {
				before := list[i].At
				list[i].At = slices.Clone(before)
				spoilPath(before)
				if fmt.Sprint(list) != applied {
					t.Errorf("%v, want %s", list, applied)
				}
			}
			p = read(t, s)
			q, _, _ = rewrite.Storm(p, 4, n)
			spoil(q)
			if !reflect.DeepEqual(p, read(t, s)) {
				t.Errorf("%s\nbecame\n%s", s, text(p))
			}
		}
	}
}

// P1, R4: lists that are empty mean the same as nil.
func TestEmptyLists(t *testing.T) {
	for _, s := range []string{everywhere, various, "func main() { }"} {
		p, q := read(t, s), read(t, s)
		q.Globals = append([]api.Global{}, q.Globals...)
		for i := range q.Funcs {
			f := &q.Funcs[i]
			f.Params, f.Body = append([]api.Param{}, f.Params...), withEmptyLists(f.Body)
		}
		for rule := range ruleCount {
			sites, _ := rewrite.Sites(p, rule)
			if also, e := rewrite.Sites(q, rule); e != api.OK || !slices.EqualFunc(sites, also, slices.Equal) {
				t.Errorf("%s\nrule %d: %v, error %d, want %v", s, rule, also, e, sites)
			}
			for _, path := range sites {
				x := api.Mutation{Rule: rule, At: path}
				want, _ := rewrite.Apply(p, x)
				if r, e := rewrite.Apply(q, x); e != api.OK || !syntax.Same(want, r) {
					t.Errorf("%s\n%v: error %d\n%s", s, x, e, text(r))
				}
			}
		}
		want, list, _ := rewrite.Storm(p, 9, 20)
		if r, also, e := rewrite.Storm(q, 9, 20); e != api.OK || !syntax.Same(want, r) || !sameMutations(list, also) {
			t.Errorf("%s\nstorm: error %d, %v\n%s", s, e, also, text(r))
		}
	}
}

func withEmptyLists(list []api.Stmt) []api.Stmt {
	out := []api.Stmt{}
	for _, s := range list {
		s.Exprs, s.Body, s.Else = append([]api.Expr{}, s.Exprs...), withEmptyLists(s.Body), withEmptyLists(s.Else)
		for i, x := range s.Exprs {
			s.Exprs[i].Args = append([]api.Expr{}, x.Args...)
		}
		out = append(out, s)
	}
	return out
}

// P1, R6: nodes of an argument that share their memory are different places.
func TestSharedNodes(t *testing.T) {
	p := read(t, "func f(n: int) { print n * 2; } func h(n: int) { } func main() { f(64); h(3); }")
	p.Funcs[1].Body = p.Funcs[0].Body
	for rule, want := range map[int]string{
		double: "func f(n: int) { print n * 2; } func h(n: int) { print n + n; } func main() { f(64); h(3); }",
		wrap:   "func f(n: int) { print n * 2; } func h(n: int) { if true { print n * 2; } } func main() { f(64); h(3); }",
	} {
		path := map[int][]int{double: {1, 0, 2}, wrap: {1, 0}}[rule]
		q, e := rewrite.Apply(p, api.Mutation{Rule: rule, At: path})
		if e != api.OK || !syntax.Same(q, read(t, want)) {
			t.Errorf("rule %d: error %d\n%s\nwant %s", rule, e, text(q), want)
		}
	}
}

// P1, R6: results depend on the arguments alone, also when many are made at once.
func TestAtOnce(t *testing.T) {
	p := read(t, everywhere)
	results := func(seed uint64) string {
		q, list, e := rewrite.Storm(p, seed, 12)
		sites, f := rewrite.Sites(p, int(seed%ruleCount))
		return fmt.Sprint(text(q), list, e, sites, f)
	}
	var want []string
	for seed := range uint64(25) {
		want = append(want, results(seed))
	}
	var wait sync.WaitGroup
	for range 6 {
		wait.Go(func() {
			for seed := range uint64(25) {
				if got := results(seed); got != want[seed] {
					t.Errorf("seed %d: %s\nwant %s", seed, got, want[seed])
				}
			}
		})
	}
	wait.Wait()
}
