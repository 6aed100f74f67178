package samples

import (
	"math"

	"cupel/api"
)

// virtualDrawer draws valid virtual code, whose functions call those with higher indices.
type virtualDrawer struct {
	*Dice
	v     api.VCode
	f     *api.VFunc
	index int
}

// Virtual makes valid virtual code, whose functions have up to so many registers.
func Virtual(seed uint64, regs int) api.VCode {
	d := virtualDrawer{Dice: NewDice(seed)}
	d.v = api.VCode{Words: d.IntN(10), Funcs: make([]api.VFunc, 1+d.IntN(4))}
	d.v.Main = d.IntN(min(2, len(d.v.Funcs)))
	for range d.IntN(d.v.Words + 1) {
		d.v.Data = append(d.v.Data, d.number())
	}
	for i := range d.v.Funcs {
		d.f, d.index = &d.v.Funcs[i], i
		d.function(regs)
	}
	return d.v
}

func (d virtualDrawer) function(regs int) {
	f := d.f
	f.Regs = 1 + d.IntN(regs)
	if d.index != d.v.Main {
		f.Args = d.IntN(4)
	}
	for range d.IntN(3) {
		f.Locals = append(f.Locals, 1+d.IntN(4))
	}
	f.Blocks = make([][]api.VInstr, 1+d.IntN(4))
	for b := range f.Blocks {
		for range d.IntN(9) {
			if x := d.instr(); x.Op != 0 {
				f.Blocks[b] = append(f.Blocks[b], x)
			}
		}
		f.Blocks[b] = append(f.Blocks[b], d.end(b == len(f.Blocks)-1)...)
	}
}

func (d virtualDrawer) number() int64 {
	return pick[int64](d.Dice, 0, 0, 1, 1, 2, 3, 4, 5, 7, 9, 11, 64, 255, -1, -2, -7, 19998, 19999, 20000, 1<<31, math.MinInt64, math.MaxInt64)
}

func (d virtualDrawer) short() int64 {
	return pick[int64](d.Dice, 0, 0, 0, 1, 1, 2, 2, 3, 4, 5, -1, -2, 19999, -19999, math.MaxInt32, math.MinInt32)
}

func (d virtualDrawer) reg() int { return d.IntN(d.f.Regs) }

// instr draws an instruction that ends no block; its Op is 0 if there is nothing for it to name.
func (d virtualDrawer) instr() api.VInstr {
	ops := VirtualOps()
	o := ops[d.IntN(len(ops))]
	if d.IntN(3) > 0 { // operations are many
		o = ops[d.IntN(api.VcResult)]
	}
	x := api.VInstr{Op: o.Op, D: -1, A: -1, B: -1}
	for _, field := range o.Fields {
		if field != 'I' {
			*registerOf(&x, field) = d.reg()
		}
	}
	most := 0
	switch o.Op {
	case api.VcZero, api.VcJump, api.VcReturn, api.VcTrap:
		return api.VInstr{}
	case api.VcSet:
		x.Imm = d.number()
		return x
	case api.VcLocal:
		most = len(d.f.Locals)
	case api.VcParam:
		most = d.f.Args
	case api.VcArg:
		most = pick(d.Dice, 2, 4, 16)
	case api.VcCall:
		most = len(d.v.Funcs) - d.index - 1
		x.Imm = int64(d.index) + 1
	default:
		if o.Op > api.VcBinI || o.Op == api.VcLoad || o.Op == api.VcStore || o.Op == api.VcCheckI {
			x.Imm = d.short()
		}
		return x
	}
	if most == 0 {
		return api.VInstr{}
	}
	x.Imm += int64(d.IntN(most))
	return x
}

// end draws what a block ends with.
func (d virtualDrawer) end(isLast bool) []api.VInstr {
	to := func() int64 { return int64(d.IntN(len(d.f.Blocks))) }
	jump := api.VInstr{Op: api.VcJump, D: -1, A: -1, B: -1, Imm: to()}
	kind := d.IntN(12)
	switch {
	case kind == 0:
		return []api.VInstr{{Op: api.VcTrap, D: -1, A: -1, B: -1}}
	case kind < 3 || isLast && kind < 10:
		return []api.VInstr{{Op: api.VcReturn, D: -1, A: d.IntN(d.f.Regs+1) - 1, B: -1}}
	case kind < 5:
		return []api.VInstr{jump}
	}
	return []api.VInstr{{Op: api.VcZero, D: -1, A: d.reg(), B: -1, Imm: to()}, jump}
}

// pick draws one of a list.
func pick[V any](d *Dice, list ...V) V { return list[d.IntN(len(list))] }
