package irsem

import "cupel/api"

// instrKinds says how the instructions of each kind are made, but for phis, which are made together.
func instrKinds() [api.IxCall + 1]func(*frame, *api.Instr) {
	return [api.IxCall + 1]func(*frame, *api.Instr){
		api.IxCopy:  (*frame).copy,
		api.IxBin:   (*frame).operate,
		api.IxCheck: (*frame).check,
		api.IxLoad:  (*frame).load,
		api.IxStore: (*frame).store,
		api.IxGet:   (*frame).get,
		api.IxPut:   (*frame).put,
		api.IxPrint: (*frame).print,
		api.IxCall:  (*frame).call,
	}
}

func (f *frame) copy(x *api.Instr) { f.regs[x.To] = f.value(x.A) }

func (f *frame) operate(x *api.Instr) {
	v, trap := operate(x.Kind, f.value(x.A), f.value(x.B))
	if trap {
		f.Trap(api.TrDivide)
	}
	f.regs[x.To] = v
}

func (f *frame) check(x *api.Instr) {
	if i := f.value(x.A); i < 0 || i >= f.value(x.B) {
		f.Trap(api.TrIndex)
	}
}

func (f *frame) load(x *api.Instr) {
	f.regs[x.To] = *f.arrays[x.Array].at(f.value(x.A))
}

func (f *frame) store(x *api.Instr) {
	a, v := f.arrays[x.Array], f.value(x.B)
	if a.small {
		v &= 255
	}
	*a.at(f.value(x.A)) = v
}

func (f *frame) get(x *api.Instr) { f.regs[x.To] = f.cells[x.Cell] }

func (f *frame) put(x *api.Instr) { f.cells[x.Cell] = f.value(x.A) }

func (f *frame) print(x *api.Instr) { f.Print(f.value(x.A)) }

func (f *frame) call(x *api.Instr) {
	given := make([]array, len(x.Arrays))
	for i, a := range x.Arrays {
		given[i] = f.arrays[a]
	}
	callee := f.enter(x.Func, given)
	for i, a := range x.Args {
		callee.regs[i] = f.value(a)
	}
	result := callee.blocks()
	if x.To >= 0 {
		f.regs[x.To] = result
	}
}
