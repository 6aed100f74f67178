package defined_test

import (
	"fmt"
	"math/rand/v2"
	"testing"

	"cupel/api"
	"cupel/defined"
	"cupel/syntax"
	"cupel/types"
)

// P5.1, P5.2: proofs and values of many programs are those of the model.
func TestModel(t *testing.T) {
	dice := rand.New(rand.NewPCG(5, 2))
	seen := map[string]int{}
	programs(t, 1500, false, func(p api.Program) {
		m := newModel(p)
		long := m.run()
		x, e := defined.Prove(p)
		if long {
			seen["long"]++
			if e != api.ErrLong {
				t.Fatalf("%s\nerror %d, but the model makes too many visits", text(p), e)
			}
			return
		}
		if got, want := showProof(x), showProof(m.proof()); got != want || e != api.OK {
			t.Fatalf("%s\n%s, error %d\nwant %s", text(p), got, e, want)
		}
		seen[fmt.Sprint("defined ", x.Defined)]++
		seen["traps"] += len(x.Traps)
		list := paths(p)
		for range 12 {
			path := list[dice.IntN(len(list))]
			typ, e := types.TypeOf(p, path)
			if e != api.OK || typ.Kind == 0 || typ.Len > 0 {
				continue
			}
			want, some := m.yielded[fmt.Sprint(path)]
			r, got, e := defined.Values(p, path)
			if r != want || got != some || e != api.OK {
				t.Fatalf("%s\nvalues of %v: %s, error %d, want %s", text(p), path, showRange(r, got), e, showRange(want, some))
			}
			n, _ := syntax.At(p, path)
			seen[fmt.Sprint("kind ", n.Expr.Kind, some)]++
			if r.High > r.Low {
				seen["several values"]++
			}
		}
	})
	for _, what := range []string{"defined true", "defined false", "traps", "several values"} {
		if seen[what] < 60 {
			t.Errorf("few: %s", what)
		}
	}
	for kind := api.ExInt; kind <= api.ExToSmall; kind++ {
		if seen[fmt.Sprint("kind ", kind, true)] < 20 {
			t.Errorf("few expressions of kind %d", kind)
		}
	}
	t.Log(seen)
}
