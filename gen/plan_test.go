package gen_test

import (
	"math"
	"testing"

	"cupel/api"
	"cupel/gen"
)

// P6.2: each number of a plan has its bounds; with ErrArg there is no program.
func TestBoundsOfPlans(t *testing.T) {
	numbers := []int{math.MinInt, -40, -1, 0, 1, 2, 3, 4, 5, 39, 40, 41, math.MaxInt}
	good := 0
	for _, funcs := range numbers {
		for _, stmts := range numbers {
			for _, depth := range numbers {
				x := api.Plan{Seed: uint64(funcs + stmts + depth), Funcs: funcs, Stmts: stmts, Depth: depth}
				valid := 0 <= funcs && funcs <= 4 && 1 <= stmts && stmts <= 40 && 0 <= depth && depth <= 4
				p, e := gen.Generate(x)
				if valid != (e == api.OK) || !valid && e != api.ErrArg || valid == isNothing(p) {
					t.Errorf("%v: error %d, %s", x, e, text(p))
				}
				if valid {
					good++
				}
			}
		}
	}
	if good != 5*7*5 {
		t.Errorf("%d valid plans", good)
	}
}
