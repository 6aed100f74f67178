package defined_test

import (
	"fmt"
	"math"
	"strings"
	"testing"

	"cupel/api"
	"cupel/defined"
	"cupel/syntax"
)

func read(t *testing.T, text string) api.Program {
	t.Helper()
	p, at, e := syntax.Parse(text)
	if e != api.OK {
		t.Fatalf("Parse(%q): error %d at %d", text, e, at)
	}
	return p
}

func text(p api.Program) string {
	s, _ := syntax.Print(p)
	return s
}

// showProof writes a proof shortly: places that may trap, then the first one that may be undefined.
func showProof(x api.Proof) string {
	var words []string
	if len(x.Traps) > 0 {
		words = append(words, "traps "+strings.Trim(fmt.Sprint(x.Traps), "[]"))
	}
	if !x.Defined || len(x.At) > 0 {
		words = append(words, fmt.Sprint(x.Defined, " at ", strings.Trim(fmt.Sprint(x.At), "[]")))
	}
	return strings.Join(words, "; ")
}

// showRange writes what Values returns shortly.
func showRange(r api.Range, some bool) string {
	switch {
	case !some && r == api.Range{}:
		return "none"
	case !some:
		return fmt.Sprint("false, but ", r)
	case r == api.Range{Low: math.MinInt64, High: math.MaxInt64}:
		return "all"
	case r.Low == r.High:
		return fmt.Sprint(r.Low)
	}
	return fmt.Sprint(r.Low, " to ", r.High)
}

// cases are programs, and what is found out about them.
type cases []struct{ text, want string }

// inMain makes programs of statements: of a function main of its own, with globals before it and functions behind it.
func (list cases) inMain(globals, functions string) cases {
	out := append(cases{}, list...)
	for i := range out {
		out[i].text = globals + "func main() { " + out[i].text + " } " + functions
	}
	return out
}

// prove compares proofs, as showProof writes them.
func (list cases) prove(t *testing.T) {
	t.Helper()
	for _, c := range list {
		x, e := defined.Prove(read(t, c.text))
		if got := showProof(x); got != c.want || e != api.OK {
			t.Errorf("%s\nproof: %q, error %d, want %q", c.text, got, e, c.want)
		}
	}
}

// values compares the ranges of all that is printed, in the order of nodes, as showRange writes them.
func (list cases) values(t *testing.T) {
	t.Helper()
	for _, c := range list {
		p := read(t, c.text)
		var found []string
		for _, path := range paths(p) {
			if n, _ := syntax.At(p, path); n.Stmt.Kind == api.StPrint {
				r, some, e := defined.Values(p, under(path, 2))
				if e != api.OK {
					t.Errorf("%s\nvalues of %v: error %d", c.text, path, e)
				}
				found = append(found, showRange(r, some))
			}
		}
		if got := strings.Join(found, ", "); got != c.want {
			t.Errorf("%s\nvalues: %s, want %s", c.text, got, c.want)
		}
	}
}

// paths returns those of all nodes, in order.
func paths(p api.Program) [][]int {
	list, _ := syntax.Places(p)
	return list
}

func under(path []int, step int) []int { return append(append([]int(nil), path...), step) }
