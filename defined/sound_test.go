package defined_test

import (
	"math/rand/v2"
	"slices"
	"testing"

	"cupel/api"
	"cupel/defined"
	"cupel/sem"
	"cupel/syntax"
	"cupel/types"
)

// P5.3: a program whose proof says that it is defined never ends undefined; traps are among those that are foreseen.
func TestProofsHold(t *testing.T) {
	type kind struct {
		defined bool
		end     int
	}
	seen := map[kind]int{}
	programs(t, 4000, false, func(p api.Program) {
		x, e := defined.Prove(p)
		if e == api.ErrLong {
			return
		}
		if e != api.OK || x.Defined != (len(x.At) == 0) {
			t.Fatalf("%s\nproof %v, error %d", text(p), x, e)
		}
		b, _, place, _ := sem.Run(p, api.MaxSteps)
		seen[kind{x.Defined, b.End}]++
		if b.End == api.EnUndefined && x.Defined {
			t.Errorf("%s\nundefined at %v", text(p), place)
		}
		isPlace := func(path []int) bool { return slices.Equal(path, place) }
		if b.End == api.EnTrap && !slices.ContainsFunc(x.Traps, isPlace) {
			t.Errorf("%s\ntraps at %v, not among %v", text(p), place, x.Traps)
		}
	})
	for _, k := range []kind{{true, api.EnDone}, {true, api.EnTrap}, {false, api.EnDone}, {false, api.EnTrap}, {false, api.EnUndefined}} {
		if seen[k] < 50 {
			t.Errorf("few programs of the kind %v: %v", k, seen)
		}
	}
	t.Log(seen)
}

// P5.3: all values that an expression has lie in the range that is foreseen for it.
func TestValuesHold(t *testing.T) {
	dice := rand.New(rand.NewPCG(5, 1))
	evaluated, wide, narrow := 0, 0, 0
	programs(t, 700, true, func(p api.Program) {
		list := paths(p)
		for range 12 {
			path := list[dice.IntN(len(list))]
			r, some, e := defined.Values(p, path)
			if e != api.OK {
				continue
			}
			typ, _ := types.TypeOf(p, path)
			for _, v := range valuesOf(t, p, path, typ.Kind) {
				if !some || v < r.Low || v > r.High {
					t.Fatalf("%s\n%v: %s, but it has the value %d", text(p), path, showRange(r, some), v)
				}
				evaluated++
				if r.High-r.Low > 0 && r.High-r.Low < 200 {
					narrow++
				} else if r.High != r.Low {
					wide++
				}
			}
		}
	})
	if evaluated < 5000 || narrow < 1000 || wide < 1000 {
		t.Errorf("%d values, %d of narrow ranges, %d of wide ones", evaluated, narrow, wide)
	}
	t.Log(evaluated, narrow, wide)
}

// valuesOf returns the values that an expression has in a run of a program that prints nothing: a function that prints them is put around it.
func valuesOf(t *testing.T, p api.Program, path []int, kind int) []int64 {
	t.Helper()
	n, _ := syntax.At(p, path)
	show := api.Func{Name: "show", Params: []api.Param{{Name: "shown", Type: api.Type{Kind: kind}}}, Result: kind}
	value := []api.Expr{{Kind: api.ExName, Name: "shown"}}
	show.Body = []api.Stmt{{Kind: api.StPrint, Exprs: value}, {Kind: api.StReturn, Exprs: value}}
	p.Funcs = append(slices.Clone(p.Funcs), show)
	n.Expr = api.Expr{Kind: api.ExCall, Name: "show", Args: []api.Expr{n.Expr}}
	q, e := syntax.Replace(p, path, n)
	if e == api.ErrLong {
		return nil
	}
	b, _, _, f := sem.Run(q, api.MaxSteps)
	if e != api.OK || f != api.OK {
		t.Fatalf("%s\n%v: errors %d, %d", text(q), path, e, f)
	}
	return b.Out
}
