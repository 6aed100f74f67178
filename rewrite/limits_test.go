package rewrite_test

import (
	"slices"
	"strings"
	"testing"

	"cupel/api"
	"cupel/rewrite"
	"cupel/syntax"
)

// growth is what a rule makes of a statement: how many more nodes a program has then, and how much deeper the deepest one is.
var growth = []struct {
	rule  int
	stmt  string
	at    []int // behind the statement
	nodes int
	deep  int
}{
	{commute, "print 1 + g;", []int{2}, 0, 0},
	{mirror, "print 1 < g;", []int{2}, 0, 0},
	{associate, "print 1 + g + 2;", []int{2}, 0, 0},
	{zero, "print g;", []int{2}, 2, 1},
	{negate, "print g;", []int{2}, 2, 2},
	{invert, "print g;", []int{2}, 2, 2},
	{deny, "print true;", []int{2}, 2, 2},
	{turn, "if true { } else { trap; }", nil, 1, 1},
	{wrap, "print g;", nil, 2, 1},
	{once, "print g;", nil, 2, 1},
	{single, "print g;", nil, 3, 1},
	{hoist, "print g;", nil, 2, 0},
	{dead, "print g;", nil, 2, 0},
	{peel, "for i in 0 .. 3 { print i; trap; }", nil, 5, 0},
	{double, "print (g - 1) * 2;", []int{2}, 2, 0},
	{double, "print g * 2;", []int{2}, 0, 0},
	{shift, "print g * 2;", []int{2}, 0, 0},
	{rename, "let x: int;", nil, 0, 0},
	{part, "let x: int;", nil, 1, 1},
	{exchange, "let x: int = 1; let y: int = 2;", nil, 0, 0},
}

// checkSite looks whether a rule can be applied at a path, if and only if this is wanted.
func checkSite(t *testing.T, p api.Program, rule int, path []int, want bool) {
	t.Helper()
	sites, e := rewrite.Sites(p, rule)
	if found := slices.ContainsFunc(sites, func(s []int) bool { return slices.Equal(s, path) }); found != want || e != api.OK {
		t.Errorf("rule %d at %v, %d nodes: a site %t, error %d, want %t", rule, path, syntax.Size(p), found, e, want)
	}
	q, e := rewrite.Apply(p, api.Mutation{Rule: rule, At: path})
	if want == (e != api.OK) || !want && (e != api.ErrNone || !isNothing(q)) || want && syntax.Check(q) != api.OK {
		t.Errorf("rule %d at %v, %d nodes: error %d, %d nodes, a site %t", rule, path, syntax.Size(p), e, syntax.Size(q), want)
	}
}

// P7.1, P7.2: there are sites as long as the result has at most MaxProgram nodes.
func TestManyNodes(t *testing.T) {
	for _, c := range growth {
		own := syntax.Size(read(t, "global g: int; func main() { "+c.stmt+" }"))
		for size := api.MaxProgram - 6; size <= api.MaxProgram; size++ {
			p := read(t, "global g: int; func main() { "+c.stmt+strings.Repeat(" return;", size-own)+" }")
			if syntax.Size(p) != size {
				t.Fatalf("%d nodes, want %d", syntax.Size(p), size)
			}
			checkSite(t, p, c.rule, append([]int{0, 0}, c.at...), size+c.nodes <= api.MaxProgram)
		}
	}
}

// P7.1, P7.2: there are sites as long as at most MaxNest statements and expressions of the result are in each other.
func TestDeepNodes(t *testing.T) {
	for _, c := range growth {
		p := read(t, "global g: int; func main() { "+c.stmt+" }")
		paths, _ := syntax.Places(p)
		deepest := 0
		for _, path := range paths {
			deepest = max(deepest, depth(t, p, path))
		}
		for around := api.MaxNest - deepest - 3; around <= api.MaxNest-deepest; around++ {
			p := read(t, "global g: int; func main() { "+strings.Repeat("if true { ", around)+c.stmt+strings.Repeat(" }", around)+" }")
			path := append(append([]int{0}, slices.Repeat([]int{0, 0}, around)...), 0)
			checkSite(t, p, c.rule, append(path, c.at...), around+deepest+c.deep <= api.MaxNest)
		}
	}
}

// depth is how many statements and expressions are in each other on the way to a node.
func depth(t *testing.T, p api.Program, path []int) int {
	t.Helper()
	n := 0
	for i := range path {
		if node, e := syntax.At(p, path[:i+1]); e == api.OK && node.Kind != api.NdFunc {
			n++
		}
	}
	return n
}

// P7.1: a place that is as deep as nodes may be has no site that makes it deeper, but others have.
func TestSomeTooDeep(t *testing.T) {
	p := read(t, "func main() { print "+strings.Repeat("-", 18)+"1; print 2; }")
	for rule, want := range map[int]string{
		zero: "[[0 1 2]]", negate: "[[0 1 2]]", deny: "[]",
		wrap: "[[0 1]]", hoist: "[[0 0] [0 1]]", dead: "[[0 0] [0 1]]",
	} {
		sites, e := rewrite.Sites(p, rule)
		if got := "[" + strings.Join(listed(sites), " ") + "]"; got != want || e != api.OK {
			t.Errorf("rule %d: %s, error %d, want %s", rule, got, e, want)
		}
	}
}

func listed(paths [][]int) []string {
	var list []string
	for _, path := range paths {
		list = append(list, "["+steps(path)+"]")
	}
	return list
}
