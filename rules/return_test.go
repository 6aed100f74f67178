package rules

import (
	"math"
	"testing"

	"cupel/api"
	"cupel/ir"
	"cupel/parts"
	"cupel/pipeline"
	"cupel/samples"
	"cupel/ssa"
)

// draw draws a number of which some are right for much, and some for nothing.
func draw(dice *samples.Dice) int64 {
	values := []int64{math.MinInt, -2, -1, 0, 1, 2, 3, 4, 5, 9, 14, 15, 16, 300, 301, math.MaxInt}
	return values[dice.IntN(len(values))]
}

// P13.4, P14.4, P15.4, P16.4, P17.4, P18.4, R1: passes return for modules in which anything was changed, valid or not, and any other arguments.
func TestPassesReturn(t *testing.T) {
	for _, p := range samples.Passes() {
		t.Run(p.Name, func(t *testing.T) {
			t.Parallel()
			dice := samples.NewDice(6)
			seen := map[api.Errno]int{}
			for seed := range uint64(2500) {
				m := p.FunctionFor(t, seed, 1+int(seed%14))
				if p.IsPlain() && seed%2 == 0 { // some of them have phis then
					if made, _, e := ssa.Into(m, 0, samples.All()); e == api.OK {
						m = made
					}
				}
				change(&m, dice, draw(dice))
				k, x := 0, p.Limits()[dice.IntN(len(p.Limits()))]
				if dice.IntN(4) == 0 {
					k = int(draw(dice))
				}
				e := parts.Arguments(m, k, x)
				if e == api.OK {
					e = p.CheckForm(m, k)
				}
				if seen[e]++; e == api.OK {
					p.Made(t, m, k, x)
				} else {
					p.ExpectError(t, m, k, x, e)
				}
			}
			if seen[api.OK] < 200 || seen[api.ErrArg] < 1000 || seen[api.ErrDown] < 50 || seen[api.ErrLong] < 1 {
				t.Errorf("errors: %v", seen)
			}
		})
	}
}

// drawRun draws arguments of pipeline.Run, mostly ones that are not right.
func drawRun(t *testing.T, dice *samples.Dice, seed uint64) runArgs {
	t.Helper()
	a := runArgs{samples.Calls(seed), dice.IntN(4), dice.IntN(40), limit(dice.IntN(6))}
	if seed%4 == 0 {
		a.M = samples.Function(t, seed, 1+dice.IntN(8))
	}
	if dice.IntN(4) > 0 {
		change(&a.M, dice, draw(dice))
	}
	switch dice.IntN(8) {
	case 0:
		a.Level = int(draw(dice))
	case 1, 2:
		a.First = int(draw(dice))
	case 3:
		a.X.Most = int(draw(dice))
	case 4:
		a.X.Faults = append(a.X.Faults, int(draw(dice)))
	}
	return a
}

// wrong returns the error that pipeline.Run has to return for arguments that are not right.
func (a runArgs) wrong() api.Errno {
	e := ir.Check(a.M)
	switch {
	case e != api.OK:
		return e
	case !parts.IsLimit(a.X):
		return api.ErrArg
	case a.Level < 0 || a.Level > 3 || a.First < -1 || a.First > []int{0, 5, 9, 12}[a.Level]*len(a.M.Funcs):
		return api.ErrPass
	}
	return api.OK
}

// P19.3, P19.5, P19.6, R1: Run returns for any arguments, and its functions have no phis.
func TestRunReturns(t *testing.T) {
	dice := samples.NewDice(7)
	seen := map[api.Errno]int{}
	for seed := range uint64(4000) {
		a := drawRun(t, dice, seed)
		m, list, e := pipeline.Run(a.M, a.Level, a.First, a.X)
		seen[e]++
		switch want := a.wrong(); {
		case want != api.OK && e != want, want == api.OK && e == api.ErrArg, want == api.OK && e == api.ErrPass:
			t.Fatalf("%+v: error %d, want %d", a, e, want)
		case e != api.OK && (len(list) > 0 || !ir.Same(m, api.Module{})):
			t.Fatalf("%+v: error %d, and %+v, %v", a, e, m, list)
		case e == api.OK:
			for k := range a.M.Funcs {
				if e := samples.NoPhi(m, k); e != api.OK {
					t.Fatalf("%+v: %d is not right (%d): %+v", a, k, e, m)
				}
			}
		}
	}
	if seen[api.OK] < 500 || seen[api.ErrArg] < 1000 || seen[api.ErrPass] < 100 || seen[api.ErrDown] < 50 || seen[api.ErrLong] < 1 {
		t.Errorf("errors: %v", seen)
	}
}
