package rewrite_test

import (
	"math/rand/v2"
	"slices"
	"testing"

	"cupel/api"
	"cupel/gen"
	"cupel/rewrite"
	"cupel/syntax"
)

// P7.1, P7.2: sites of all rules in many programs, and what becomes of them, are those of the model.
func TestModel(t *testing.T) {
	dice := rand.New(rand.NewPCG(1, 8))
	var found [ruleCount]int
	look := func(p api.Program) {
		m := newModel(p)
		for rule := range ruleCount {
			var want [][]int
			for _, path := range m.paths {
				seed := dice.Uint64()
				result, ok := m.apply(rule, path, seed)
				if ok {
					want = append(want, path)
				} else if dice.IntN(20) > 0 {
					continue
				}
				q, e := rewrite.Apply(p, api.Mutation{Rule: rule, At: path, Seed: seed})
				if !ok && e != api.ErrNone || ok && e != api.OK || !syntax.Same(q, result) {
					t.Fatalf("%s\nrule %d at %v, error %d\n%s\nwant\n%s", m.text, rule, path, e, text(q), text(result))
				}
			}
			found[rule] += len(want)
			sites, e := rewrite.Sites(p, rule)
			if e != api.OK || !slices.EqualFunc(sites, want, slices.Equal) {
				t.Fatalf("%s\nrule %d has the sites %v, error %d\nwant %v", m.text, rule, sites, e, want)
			}
		}
	}
	programs(t, 50, look)
	generated(20, look)
	for rule, n := range found {
		if n < 10 {
			t.Errorf("rule %d: %d sites", rule, n)
		}
	}
	t.Log(found)
}

// generated calls look with programs of plans of all sizes.
func generated(number int, look func(p api.Program)) {
	for i := range number {
		p, _ := gen.Generate(api.Plan{Seed: uint64(i) << (i % 50), Funcs: i % 5, Stmts: 1 + i*7%40, Depth: i / 5 % 5})
		look(p)
	}
}
