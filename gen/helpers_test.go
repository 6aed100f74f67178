package gen_test

import (
	"testing"

	"cupel/api"
	"cupel/syntax"
)

func read(t *testing.T, text string) api.Program {
	t.Helper()
	p, at, e := syntax.Parse(text)
	if e != api.OK {
		t.Fatalf("Parse(%q): error %d at %d", text, e, at)
	}
	return p
}

func text(p api.Program) string {
	s, _ := syntax.Print(p)
	return s
}

// isNothing reports whether a program is the zero value.
func isNothing(p api.Program) bool { return len(p.Globals)+len(p.Funcs) == 0 }

// plans calls look with plans of all sizes and many seeds.
func plans(number int, look func(x api.Plan)) {
	for i := range number {
		seed := uint64(i) * 0x9e3779b97f4a7c17 >> (i % 7 * 8)
		look(api.Plan{Seed: seed, Funcs: i % 5, Stmts: 1 + i/25%40, Depth: i / 5 % 5})
	}
}
