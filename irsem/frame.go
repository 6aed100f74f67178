package irsem

import (
	"slices"

	"cupel/api"
)

// frame is a call that has not ended: its registers, and its arrays, of which those that are not local share their elements with the caller and the module.
type frame struct {
	*run
	index  int
	called *api.IFunc
	regs   []int64
	arrays []array
	phis   []int64 // what has been read for the phis of a block, kept to be used again
}

// enter begins a call of a function to which these arrays are given.
func (r *run) enter(index int, given []array) *frame {
	called := &r.m.Funcs[index]
	f := &frame{run: r, index: index, called: called, regs: make([]int64, called.Regs), arrays: make([]array, len(called.Arrays))}
	for i, a := range called.Arrays {
		switch a.Kind {
		case api.AyLocal:
			f.arrays[i] = newArray(a.Len, a.Small)
		case api.AyParam:
			f.arrays[i], given = given[0], given[1:]
		case api.AyGlobal:
			f.arrays[i] = r.arrays[a.Global]
		}
	}
	return f
}

// blocks runs the function from the block 0 on, and returns its result.
func (f *frame) blocks() int64 {
	from, now := -1, 0
	for {
		f.visit(f.index, now)
		block := &f.called.Blocks[now]
		f.code(block.Code, from)
		f.Step()
		end := &block.End
		from = now
		switch {
		case end.Op == api.TmReturn && f.called.Result:
			return f.value(end.A)
		case end.Op == api.TmReturn:
			return 0
		case end.Op == api.TmTrap:
			f.Trap(api.TrStated)
		case end.Op == api.TmBranch && f.value(end.A) == 0:
			now = end.Else
		default:
			now = end.To
		}
	}
}

// code makes the instructions of a block that is entered from another one.
func (f *frame) code(list []api.Instr, from int) {
	f.phis = f.phis[:0]
	for len(f.phis) < len(list) && list[len(f.phis)].Op == api.IxPhi {
		f.Step()
		x := &list[len(f.phis)]
		f.phis = append(f.phis, f.value(x.Args[slices.Index(x.From, from)]))
	}
	for i, v := range f.phis {
		f.regs[list[i].To] = v
	}
	list = list[len(f.phis):]
	for i := range list {
		f.Step()
		f.instrs[list[i].Op](f, &list[i])
	}
}

func (f *frame) value(x api.Opd) int64 {
	if x.Reg < 0 {
		return x.Imm
	}
	return f.regs[x.Reg]
}
