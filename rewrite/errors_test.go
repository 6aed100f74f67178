package rewrite_test

import (
	"math"
	"slices"
	"strings"
	"testing"

	"cupel/api"
	"cupel/rewrite"
	"cupel/syntax"
)

// P7.1: the names of the rules, by their numbers.
func TestRules(t *testing.T) {
	want := "commute mirror associate zero negate invert deny turn wrap once single hoist dead peel double shift rename part exchange"
	names := rewrite.Rules()
	if got := strings.Join(names, " "); got != want || len(names) != ruleCount || names[exchange] != "exchange" || names[hoist] != "hoist" {
		t.Errorf("%d rules: %s", len(names), got)
	}
}

// wrongPrograms are programs for which syntax.Check returns an error; some contain themselves.
func wrongPrograms() []api.Program {
	endlessArgs := make([]api.Expr, 1)
	endlessArgs[0] = api.Expr{Kind: api.ExUnary, Op: api.UnNeg, Args: endlessArgs}
	endlessBlock := make([]api.Stmt, 1)
	endlessBlock[0] = api.Stmt{Kind: api.StIf, Exprs: []api.Expr{{Kind: api.ExBool}}, Body: endlessBlock, Else: endlessBlock}
	main := func(list ...api.Stmt) api.Program {
		return api.Program{Funcs: []api.Func{{Name: "main", Body: list}}}
	}
	return []api.Program{
		main(endlessBlock...),
		main(api.Stmt{Kind: api.StPrint, Exprs: endlessArgs}),
		main(make([]api.Stmt, 400)...),
		main(api.Stmt{}),
		main(api.Stmt{Kind: api.StPrint}),
		main(api.Stmt{Kind: 13}),
		main(api.Stmt{Kind: api.StTrap, Bound: 1}),
		main(api.Stmt{Kind: api.StPrint, Exprs: []api.Expr{{Kind: api.ExSmall, Int: 256}}}),
		main(api.Stmt{Kind: api.StPrint, Exprs: []api.Expr{{Kind: api.ExBinary, Op: 99, Args: make([]api.Expr, 2)}}}),
		{Funcs: make([]api.Func, 9)},
		{Globals: make([]api.Global, 9), Funcs: []api.Func{{Name: "main"}}},
		{Globals: []api.Global{{Name: "if"}}, Funcs: []api.Func{{Name: "main"}}},
	}
}

// flawed are programs with flaws of all kinds.
var flawed = []string{
	"", "func main(): int { return 1; }", "func f() { }",
	"func main() { print x; }", "func main() { let x: int; let x: int; }", "func main() { print 1 + 1s; }", "func main() { main(1); }", "func main() { return 1; }",
	"func main() { break; }", "func main() { for i in 0 .. 1 { i = 1; } }", "func main() { main(); }", "global a: int[2]; func f(b: int[2]) { a[0] = 1; } func main() { f(a); }",
	"func main() { let x: int; print x; }", "func f(): int { } func main() { }",
}

// checkErrors asks for all of a program, with all arguments that matter, and wants one error; nothing comes with it.
func checkErrors(t *testing.T, p api.Program, want api.Errno) {
	t.Helper()
	for _, rule := range []int{math.MinInt, -1, 0, dead, 18, 19, math.MaxInt} {
		if sites, e := rewrite.Sites(p, rule); e != want || len(sites) > 0 {
			t.Errorf("Sites of %d: %v, error %d, want %d", rule, sites, e, want)
		}
		for _, at := range [][]int{nil, {0}, {0, 0}, {0, 0, 2}, {-1}} {
			if q, e := rewrite.Apply(p, api.Mutation{Rule: rule, At: at}); e != want || !isNothing(q) {
				t.Errorf("Apply %d at %v: error %d, want %d\n%s", rule, at, e, want, text(q))
			}
		}
	}
	for _, n := range []int{math.MinInt, -1, 0, 1, 50, 51, math.MaxInt} {
		if q, list, e := rewrite.Storm(p, 5, n); e != want || !isNothing(q) || len(list) > 0 {
			t.Errorf("Storm of %d: %v, error %d, want %d\n%s", n, list, e, want, text(q))
		}
	}
}

// The errors of syntax.Check come first, then ErrDown, whatever the other arguments are.
func TestProgramsWithErrors(t *testing.T) {
	errors := map[api.Errno]int{}
	for _, p := range wrongPrograms() {
		want := syntax.Check(p)
		errors[want]++
		checkErrors(t, p, want)
	}
	if errors[api.ErrLong] < 3 || errors[api.ErrArg] < 5 || errors[api.OK] > 0 {
		t.Errorf("errors: %v", errors)
	}
	for _, s := range flawed {
		checkErrors(t, read(t, s), api.ErrDown)
	}
}

const various = "global g: int = 3; func f(n: int): int { return n * 2; } func main() { let x: int = g + 1; if x < 2 { print f(x); } else { f(g * 8); } for i in 0 .. 3 { print i; } let y: small; }"

// P7.1, P7.2: ErrArg, if there is no such rule.
func TestNoRule(t *testing.T) {
	p := read(t, various)
	for _, rule := range []int{math.MinInt, -19, -1, 19, 20, 1000, math.MaxInt} {
		if sites, e := rewrite.Sites(p, rule); e != api.ErrArg || len(sites) > 0 {
			t.Errorf("Sites of %d: %v, error %d", rule, sites, e)
		}
		for _, at := range [][]int{nil, {0}, {1, 0}, {1, 0, 2}, {7, 7}} {
			if q, e := rewrite.Apply(p, api.Mutation{Rule: rule, At: at}); e != api.ErrArg || !isNothing(q) {
				t.Errorf("Apply %d at %v: error %d\n%s", rule, at, e, text(q))
			}
		}
	}
	for rule := range ruleCount {
		if _, e := rewrite.Sites(p, rule); e != api.OK {
			t.Errorf("Sites of %d: error %d", rule, e)
		}
	}
}

// P7.2: ErrNone at all paths that are no sites, and at no others.
func TestNoSite(t *testing.T) {
	p := read(t, various)
	all, _ := syntax.Places(p)
	for rule := range ruleCount {
		sites, _ := rewrite.Sites(p, rule)
		isSite := func(path []int) bool {
			return slices.ContainsFunc(sites, func(s []int) bool { return slices.Equal(s, path) })
		}
		paths := [][]int{nil, {}, {-1}, {2}, {math.MaxInt, math.MinInt}, make([]int, 5000)}
		for _, path := range all {
			paths = append(paths, path, path[:len(path)-1])
			for _, step := range []int{-1, 0, 1, 2, 3, 4, 99, math.MaxInt, math.MinInt} {
				paths = append(paths, append(slices.Clone(path), step), append(slices.Clone(path), 0, step))
			}
		}
		for _, path := range paths {
			q, e := rewrite.Apply(p, api.Mutation{Rule: rule, At: path, Seed: 3})
			if isSite(path) != (e == api.OK) || e != api.OK && e != api.ErrNone || isNothing(q) != (e != api.OK) {
				t.Errorf("rule %d at %v, error %d, a site %t", rule, path, e, isSite(path))
			}
		}
	}
}

// P7.1: no site of any rule is a function, or in a function without statements.
func TestNothingToRewrite(t *testing.T) {
	for _, s := range []string{"func main() { }", "global g: int[3]; global h: bool = true; func f(a: int[2], b: int) { } func main() { }"} {
		p := read(t, s)
		for rule := range ruleCount {
			if sites, e := rewrite.Sites(p, rule); len(sites) > 0 || e != api.OK {
				t.Errorf("%s\nrule %d: %v, error %d", s, rule, sites, e)
			}
			if q, e := rewrite.Apply(p, api.Mutation{Rule: rule, At: []int{0}}); e != api.ErrNone || !isNothing(q) {
				t.Errorf("%s\nrule %d: error %d", s, rule, e)
			}
		}
	}
}

// P7.2: Seed matters for dead alone.
func TestSeedMatters(t *testing.T) {
	p := read(t, various)
	for rule := range ruleCount {
		sites, _ := rewrite.Sites(p, rule)
		for _, path := range sites {
			texts := map[string]bool{}
			for _, seed := range []uint64{0, 1, 2, 1 << 40, math.MaxUint64} {
				q, e := rewrite.Apply(p, api.Mutation{Rule: rule, At: path, Seed: seed})
				if e != api.OK {
					t.Errorf("rule %d at %v, seed %d: error %d", rule, path, seed, e)
				}
				texts[text(q)] = true
			}
			if (len(texts) > 1) != (rule == dead) {
				t.Errorf("rule %d at %v: %d programs", rule, path, len(texts))
			}
		}
	}
}
