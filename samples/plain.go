package samples

import (
	"math"

	"cupel/api"
	"cupel/parts"
	"cupel/pipeline"
	"cupel/ssa"
)

// Plain calls look with modules without phis: of functions that call each other, also with more constants, of generated programs, before and after passes, and of functions that were in static single assignment form.
func Plain(t T, count int, look func(m api.Module)) {
	t.Helper()
	dice := NewDice(1)
	Callers(count, func(m api.Module) {
		look(m)
		vary(dice, m)
		look(m)
	})
	level := 0
	Lowered(count/2, func(m api.Module) {
		look(m)
		if made, _, e := pipeline.Run(m, 1+level%3, -1, All()); e == api.OK {
			look(made)
		}
		level++
	})
	Functions(t, count/2, 24, func(m api.Module) {
		if made, _, e := ssa.Out(m, 0, All()); e == api.OK {
			look(made)
		}
	})
}

// vary puts constants of all sizes in the place of some operands.
func vary(dice *Dice, m api.Module) {
	put := func(list []*api.Opd) {
		for _, o := range list {
			if dice.IntN(5) == 0 {
				*o = api.Opd{Reg: -1, Imm: pick[int64](dice, 0, 1, 2, 3, -1, -2, -7, 255, 256, 300, -300, math.MaxInt32, math.MaxInt32+1, math.MinInt32, math.MinInt32-1, 1<<40, math.MaxInt64, math.MinInt64)}
			}
		}
	}
	for _, f := range m.Funcs {
		for b := range f.Blocks {
			block := &f.Blocks[b]
			for i := range block.Code {
				put(parts.Operands(&block.Code[i]))
			}
			put(parts.EndOperands(&block.End, f.Result))
		}
	}
}
