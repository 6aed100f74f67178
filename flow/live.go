package flow

import (
	"cupel/api"
	"cupel/ir"
)

// registers is a set of registers, a bit for each.
type registers [(api.MaxRegs + 63) / 64]uint64

// uses is what a block does with registers.
type uses struct {
	reads registers // they are read before anything in the block defines them, phis being first
	sets  registers // they are defined in the block
	last  registers // they are read at its end, by phis of blocks to which it leads
}

func (s *registers) add(r int) { s[r/64] |= 1 << (r % 64) }

func (s registers) has(r int) bool { return s[r/64]>>(r%64)&1 == 1 }

func (s registers) with(t registers) registers {
	for i := range s {
		s[i] |= t[i]
	}
	return s
}

func (s registers) without(t registers) registers {
	for i := range s {
		s[i] &^= t[i]
	}
	return s
}

func (s registers) ascending() []int {
	var list []int
	for r := range api.MaxRegs {
		if s.has(r) {
			list = append(list, r)
		}
	}
	return list
}

// live begins with no register being live, and adds those that are, until nothing changes.
func live(f api.IFunc) (in, out [][]int) {
	_, succs := edges(f)
	used := allUses(f)
	starts, ends := make([]registers, len(used)), make([]registers, len(used))
	for again := true; again; {
		again = false
		for b := len(used) - 1; b >= 0; b-- {
			u := used[b]
			ends[b] = u.last
			for _, to := range succs[b] {
				ends[b] = ends[b].with(starts[to])
			}
			if more := ends[b].without(u.sets).with(u.reads); more != starts[b] {
				starts[b], again = more, true
			}
		}
	}
	return lists(starts), lists(ends)
}

func lists(sets []registers) [][]int {
	all := make([][]int, len(sets))
	for b, set := range sets {
		all[b] = set.ascending()
	}
	return all
}

func allUses(f api.IFunc) []uses {
	all := make([]uses, len(f.Blocks))
	for b, block := range f.Blocks {
		for _, x := range block.Code {
			regs, to := ir.Uses(x)
			if x.Op == api.IxPhi {
				readBefore(all, x)
			} else {
				all[b].read(regs...)
			}
			if to >= 0 {
				all[b].sets.add(to)
			}
		}
		if block.End.Op == api.TmBranch || block.End.Op == api.TmReturn && f.Result {
			all[b].read(block.End.A.Reg)
		}
	}
	return all
}

// readBefore adds what a phi reads, each at the end of its block.
func readBefore(all []uses, phi api.Instr) {
	for i, from := range phi.From {
		if r := phi.Args[i].Reg; r >= 0 {
			all[from].last.add(r)
		}
	}
}

// read adds what is read next in a block, -1 being no register.
func (u *uses) read(regs ...int) {
	for _, r := range regs {
		if r >= 0 && !u.sets.has(r) {
			u.reads.add(r)
		}
	}
}
