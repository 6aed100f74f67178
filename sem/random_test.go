package sem_test

import (
	"fmt"
	"math/rand/v2"
	"slices"
	"testing"

	"cupel/api"
	"cupel/sem"
	"cupel/syntax"
	"cupel/types"
)

// P3.1, P3.2: behaviours, steps, places and traces of many programs are those of the model.
func TestModel(t *testing.T) {
	ends := map[string]int{}
	dice := rand.New(rand.NewPCG(1, 4))
	programs(t, 800, false, func(p api.Program) {
		m := newModel(p)
		statements := statementsOf(t, p)
		_, all, _, _ := sem.Run(p, enough)
		for _, steps := range []int{enough, all, max(all-1, 0), dice.IntN(all + 1)} {
			path := statements[dice.IntN(len(statements))]
			want := m.run(steps, path)
			b, used, place, e := sem.Run(p, steps)
			got := show(b, place)
			if got != show(api.Behaviour{Out: m.out, End: want.end, Code: want.code}, want.place) || used != m.used || e != api.OK {
				t.Fatalf("%s\nwith %d steps: %s, %d steps, error %d\nwant %v, %v, %d steps", text(p), steps, got, used, e, m.out, want, m.used)
			}
			rows, e := sem.Trace(p, steps, path)
			if !slices.EqualFunc(rows, m.rows, slices.Equal) || e != api.OK {
				t.Fatalf("%s\nTrace %v with %d steps: %v, error %d\nwant %v", text(p), path, steps, rows, e, m.rows)
			}
			ends[fmt.Sprint(b.End, b.Code)]++
		}
	})
	for _, end := range []string{"1 0", "2 1", "2 2", "2 3", "3 1", "4 0"} {
		if ends[end] < 10 {
			t.Errorf("few ends %s: %v", end, ends)
		}
	}
	t.Log(ends)
}

func statementsOf(t *testing.T, p api.Program) [][]int {
	t.Helper()
	var list [][]int
	paths, _ := syntax.Places(p)
	for _, path := range paths {
		if n, _ := syntax.At(p, path); n.Kind == api.NdStmt {
			list = append(list, path)
		}
	}
	return list
}

// P3.4: a behaviour agrees with those with fewer steps, and is the same with more, once it has come to its end.
func TestMoreSteps(t *testing.T) {
	programs(t, 150, false, func(p api.Program) {
		full, all, end, _ := sem.Run(p, enough)
		for steps := 0; steps <= all+1 && steps <= enough; steps += 1 + steps/40 {
			b, used, place, _ := sem.Run(p, steps)
			if !sem.Agree(b, full) || used != min(steps, all) || steps < all && b.End != api.EnSteps {
				t.Errorf("%s\nwith %d steps: %s, %d steps", text(p), steps, show(b, place), used)
			}
			if steps >= all && show(b, place) != show(full, end) {
				t.Errorf("%s\nwith %d steps: %s, with more: %s", text(p), steps, show(b, place), show(full, end))
			}
		}
	})
}

// P3.5: values in traces are values of their types.
func TestValuesOfTypes(t *testing.T) {
	rowsSeen := 0
	programs(t, 150, false, func(p api.Program) {
		for _, path := range statementsOf(t, p) {
			var kinds []int
			names, _ := types.Names(p, path)
			for _, k := range names {
				if k.Set && k.Type.Len == 0 {
					kinds = append(kinds, k.Type.Kind)
				}
			}
			rows, _ := sem.Trace(p, 300, path)
			for _, row := range rows {
				rowsSeen++
				if len(row) != len(kinds) {
					t.Fatalf("%s\nat %v: %v for kinds %v", text(p), path, row, kinds)
				}
				for i, v := range row {
					if kinds[i] == api.TySmall && (v < 0 || v > 255) || kinds[i] == api.TyBool && v != 0 && v != 1 {
						t.Fatalf("%s\nat %v: %v for kinds %v", text(p), path, row, kinds)
					}
				}
			}
		}
	})
	if rowsSeen < 1000 {
		t.Errorf("%d rows", rowsSeen)
	}
}

// P3.5: programs without shifts, / and % are never undefined.
func TestTame(t *testing.T) {
	ends := map[int]int{}
	programs(t, 600, true, func(p api.Program) {
		b, _, place, _ := sem.Run(p, enough)
		if b.End == api.EnUndefined {
			t.Errorf("%s\ndoes %s", text(p), show(b, place))
		}
		ends[b.End]++
	})
	if ends[api.EnDone] < 100 || ends[api.EnTrap] < 20 {
		t.Errorf("ends: %v", ends)
	}
}
