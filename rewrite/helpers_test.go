package rewrite_test

import (
	"fmt"
	"slices"
	"strings"
	"testing"

	"cupel/api"
	"cupel/rewrite"
	"cupel/syntax"
)

// The rules, by their numbers.
const (
	commute = iota
	mirror
	associate
	zero
	negate
	invert
	deny
	turn
	wrap
	once
	single
	hoist
	dead
	peel
	double
	shift
	rename
	part
	exchange
	ruleCount
)

func read(t *testing.T, text string) api.Program {
	t.Helper()
	p, at, e := syntax.Parse(text)
	if e != api.OK {
		t.Fatalf("Parse(%q): error %d at %d", text, e, at)
	}
	return p
}

func text(p api.Program) string {
	s, _ := syntax.Print(p)
	return s
}

// isNothing reports whether a program is the zero value.
func isNothing(p api.Program) bool { return len(p.Globals)+len(p.Funcs) == 0 }

// steps writes a path as it stands in the tests: 0 1 2.
func steps(path []int) string { return strings.Trim(fmt.Sprint(path), "[]") }

// around is what stands around the function of a case: it is the first one.
const (
	globals   = "global g: int = 3; global h: small = 4s; global b: bool = true; global a: int[3]; global c: small[2]; "
	functions = " func f(n: int): int { return n; } func k(s: small): small { return s; } func q(): bool { return b; } func d(i: int) { } func w(v: int[2], i: int): int { return i; }"
	inMain    = "func main() { "
	inValue   = "func v(n: int): int { "
)

// whole is the text of a program of which the first function has a head and a body.
func whole(head, body string) string {
	if head != inMain {
		body += " } func main() {"
	}
	return globals + head + body + " }" + functions
}

// sitesOfFirst returns the sites of a rule in the first function.
func sitesOfFirst(t *testing.T, p api.Program, rule int) [][]int {
	t.Helper()
	sites, e := rewrite.Sites(p, rule)
	if e != api.OK {
		t.Errorf("%s\nrule %d: error %d", text(p), rule, e)
	}
	return slices.DeleteFunc(sites, func(path []int) bool { return path[0] > 0 })
}

// cases are bodies of a function, and for each site of a rule in it, in order, what it becomes: the path without the function, a colon, and the body.
type cases []struct {
	body string
	want []string
}

// check compares the sites, and what becomes of them.
func (list cases) check(t *testing.T, rule int, head string) {
	t.Helper()
	for _, c := range list {
		p := read(t, whole(head, c.body))
		sites := sitesOfFirst(t, p, rule)
		if len(sites) != len(c.want) {
			t.Errorf("%s\nhas the sites %v, want %q", c.body, sites, c.want)
			continue
		}
		for i, want := range c.want {
			place, body, _ := strings.Cut(want, ":")
			if got := steps(sites[i][1:]); got != place {
				t.Errorf("%s\nhas the site %s, want %s", c.body, got, place)
			}
			q, e := rewrite.Apply(p, api.Mutation{Rule: rule, At: sites[i]})
			if e != api.OK || !syntax.Same(q, read(t, whole(head, body))) {
				t.Errorf("%s\nat %s became, error %d\n%s\nwant %s", c.body, place, e, text(q), body)
			}
		}
	}
}

// becomes is a case with one site.
func becomes(body, place, result string) cases {
	return cases{{body, []string{place + ":" + result}}}
}

// stays is a case without a site.
func stays(body string) cases { return cases{{body, nil}} }
