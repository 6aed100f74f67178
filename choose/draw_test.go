package choose_test

import (
	"math/rand/v2"

	"cupel/api"
	"cupel/samples"
)

// drawer draws valid virtual code, whose functions call those with higher indices.
type drawer struct {
	*rand.Rand
	v     api.VCode
	f     *api.VFunc
	index int
}

func drawCode(r *rand.Rand) api.VCode {
	d := drawer{Rand: r}
	d.v = api.VCode{Words: r.IntN(10), Funcs: make([]api.VFunc, 1+r.IntN(4))}
	d.v.Main = r.IntN(min(2, len(d.v.Funcs)))
	for range r.IntN(d.v.Words + 1) {
		d.v.Data = append(d.v.Data, d.number())
	}
	for i := range d.v.Funcs {
		d.f, d.index = &d.v.Funcs[i], i
		d.function()
	}
	return d.v
}

func (d drawer) function() {
	f := d.f
	f.Regs = 1 + d.IntN(5)
	if d.index != d.v.Main {
		f.Args = d.IntN(4)
	}
	for range d.IntN(3) {
		f.Locals = append(f.Locals, 1+d.IntN(4))
	}
	f.Blocks = make([][]api.VInstr, 1+d.IntN(4))
	for b := range f.Blocks {
		for range d.IntN(9) {
			if x := d.instr(); x.Op != 0 {
				f.Blocks[b] = append(f.Blocks[b], x)
			}
		}
		f.Blocks[b] = append(f.Blocks[b], d.end(b == len(f.Blocks)-1)...)
	}
}

func (d drawer) number() int64 {
	return pick[int64](d.Rand, 0, 0, 1, 1, 2, 3, 4, 5, 7, 9, 11, 64, 255, -1, -2, -7, 19998, 19999, 20000, 1<<31, least, greatest)
}

func (d drawer) short() int64 {
	return pick[int64](d.Rand, 0, 0, 0, 1, 1, 2, 2, 3, 4, 5, -1, -2, 19999, -19999, 1<<31-1, -1<<31)
}

func (d drawer) reg() int { return d.IntN(d.f.Regs) }

// instr draws an instruction that ends no block; its Op is 0 if there is nothing for it to name.
func (d drawer) instr() api.VInstr {
	ops := samples.VirtualOps()
	o := ops[d.IntN(len(ops))]
	if d.IntN(3) > 0 { // operations are many
		o = ops[d.IntN(api.VcResult)]
	}
	x := api.VInstr{Op: o.Op, D: -1, A: -1, B: -1}
	for _, field := range o.Fields {
		switch field {
		case 'D':
			x.D = d.reg()
		case 'A':
			x.A = d.reg()
		case 'B':
			x.B = d.reg()
		}
	}
	most := 0
	switch o.Op {
	case api.VcZero, api.VcJump, api.VcReturn, api.VcTrap:
		return api.VInstr{}
	case api.VcSet:
		x.Imm = d.number()
		return x
	case api.VcLocal:
		most = len(d.f.Locals)
	case api.VcParam:
		most = d.f.Args
	case api.VcArg:
		most = pick(d.Rand, 2, 4, 16)
	case api.VcCall:
		most = len(d.v.Funcs) - d.index - 1
		x.Imm = int64(d.index) + 1
	default:
		if o.Op > api.VcBinI || o.Op == api.VcLoad || o.Op == api.VcStore || o.Op == api.VcCheckI {
			x.Imm = d.short()
		}
		return x
	}
	if most == 0 {
		return api.VInstr{}
	}
	x.Imm += int64(d.IntN(most))
	return x
}

// end draws what a block ends with.
func (d drawer) end(isLast bool) []api.VInstr {
	to := func() int64 { return int64(d.IntN(len(d.f.Blocks))) }
	jump := api.VInstr{Op: api.VcJump, D: -1, A: -1, B: -1, Imm: to()}
	kind := d.IntN(12)
	switch {
	case kind == 0:
		return []api.VInstr{{Op: api.VcTrap, D: -1, A: -1, B: -1}}
	case kind < 3 || isLast && kind < 10:
		return []api.VInstr{{Op: api.VcReturn, D: -1, A: d.IntN(d.f.Regs+1) - 1, B: -1}}
	case kind < 5:
		return []api.VInstr{jump}
	}
	return []api.VInstr{{Op: api.VcZero, D: -1, A: d.reg(), B: -1, Imm: to()}, jump}
}
