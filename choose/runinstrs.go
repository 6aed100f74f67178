package choose

import (
	"cupel/api"
	"cupel/irsem"
)

// instrs says how the instructions of each Op are made when they are run.
func (r *run) instrs() map[int]func(*api.VInstr) {
	all := map[int]func(*api.VInstr){
		api.VcMove:   r.move,
		api.VcSet:    r.set,
		api.VcLoad:   r.load,
		api.VcStore:  r.store,
		api.VcLocal:  r.local,
		api.VcCheck:  r.check,
		api.VcCheckI: r.checkI,
		api.VcPrint:  r.print,
		api.VcParam:  r.param,
		api.VcArg:    r.arg,
		api.VcCall:   r.call,
		api.VcResult: r.result,
		api.VcZero:   r.zero,
		api.VcJump:   r.jump,
		api.VcReturn: r.leave,
		api.VcTrap:   r.trap,
	}
	for kind := api.IbAdd; kind <= api.IbLe; kind++ {
		all[api.VcBin+kind] = r.bin
		all[api.VcBinI+kind] = r.binI
	}
	return all
}

func (r *run) move(x *api.VInstr) { r.regs[x.D] = r.regs[x.A] }

func (r *run) set(x *api.VInstr) { r.regs[x.D] = x.Imm }

func (r *run) load(x *api.VInstr) { r.regs[x.D] = *r.word(x) }

func (r *run) store(x *api.VInstr) { *r.word(x) = r.regs[x.B] }

// word returns the one of the memory to which a load or a store leads.
func (r *run) word(x *api.VInstr) *int64 {
	place := r.regs[x.A] + x.Imm
	if !isIndex(place, len(r.memory)) {
		r.Trap(api.TrMemory)
	}
	return &r.memory[place]
}

func (r *run) local(x *api.VInstr) { r.regs[x.D] = r.locals[x.Imm] }

func (r *run) check(x *api.VInstr) { r.inside(r.regs[x.A], r.regs[x.B]) }

func (r *run) checkI(x *api.VInstr) { r.inside(r.regs[x.A], x.Imm) }

// inside traps unless an index is below a bound.
func (r *run) inside(index, bound int64) {
	if index < 0 || index >= bound {
		r.Trap(api.TrIndex)
	}
}

func (r *run) print(x *api.VInstr) { r.Print(r.regs[x.A]) }

func (r *run) param(x *api.VInstr) { r.regs[x.D] = r.given[x.Imm] }

func (r *run) arg(x *api.VInstr) { r.giving[x.Imm] = r.regs[x.A] }

// call gives its arguments to one function only: for the next call there are none as yet.
func (r *run) call(x *api.VInstr) {
	given := r.giving
	r.giving = arguments{}
	r.last = r.function(int(x.Imm), given)
}

func (r *run) result(x *api.VInstr) { r.regs[x.D] = r.last }

func (r *run) zero(x *api.VInstr) {
	if r.regs[x.A] == 0 {
		r.jump(x)
	}
}

func (r *run) jump(x *api.VInstr) { r.block, r.next = int(x.Imm), 0 }

func (r *run) leave(x *api.VInstr) {
	r.returned = true
	if x.A != none {
		r.value = r.regs[x.A]
	}
}

func (r *run) trap(*api.VInstr) { r.Trap(api.TrStated) }

func (r *run) bin(x *api.VInstr) { r.operate(x.D, x.Op-api.VcBin, r.regs[x.A], r.regs[x.B]) }

func (r *run) binI(x *api.VInstr) { r.operate(x.D, x.Op-api.VcBinI, r.regs[x.A], x.Imm) }

func (r *run) operate(to, kind int, a, b int64) {
	v, trap, _ := irsem.Bin(kind, a, b)
	if trap {
		r.Trap(api.TrDivide)
	}
	r.regs[to] = v
}
