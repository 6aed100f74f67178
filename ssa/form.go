package ssa

import (
	"cupel/api"
	"cupel/parts"
)

// place is where an instruction is.
type place struct{ block, index int }

// isForm reports whether a function is in static single assignment form.
func isForm(f api.IFunc, g api.Graph) bool {
	made, once := definitions(f)
	if !once {
		return false
	}
	// known asks for what is defined before an instruction.
	known := func(o api.Opd, at place) bool {
		d, is := made[o.Reg]
		switch {
		case o.Reg < f.Params: // or a constant, which has -1
			return true
		case is && d.block == at.block:
			return d.index < at.index
		}
		return is && dominates(g, d.block, at.block)
	}
	for _, b := range g.Order {
		block := f.Blocks[b]
		for i, x := range block.Code {
			if x.Op == api.IxPhi && !arePhiArgs(f, g, x, known) || x.Op != api.IxPhi && !areKnown(parts.Operands(&x), place{b, i}, known) {
				return false
			}
		}
		if !areKnown(parts.EndOperands(&block.End, f.Result), place{b, len(block.Code)}, known) {
			return false
		}
	}
	return true
}

// definitions returns where registers are defined, and whether each is at most once, and parameters never.
func definitions(f api.IFunc) (made map[int]place, once bool) {
	made = map[int]place{}
	for b, block := range f.Blocks {
		for i, x := range block.Code {
			if _, again := made[x.To]; again || x.To >= 0 && x.To < f.Params {
				return nil, false
			}
			if x.To >= 0 {
				made[x.To] = place{b, i}
			}
		}
	}
	return made, true
}

// dominates goes up from the block b.
func dominates(g api.Graph, a, b int) bool {
	for b >= 0 && b != a {
		b = g.Idom[b]
	}
	return b == a
}

func areKnown(list []*api.Opd, at place, known func(o api.Opd, at place) bool) bool {
	for _, o := range list {
		if !known(*o, at) {
			return false
		}
	}
	return true
}

// arePhiArgs asks for each operand of a phi at the end of its block, if that is reached.
func arePhiArgs(f api.IFunc, g api.Graph, x api.Instr, known func(o api.Opd, at place) bool) bool {
	for i, from := range x.From {
		isReached := from == 0 || g.Idom[from] >= 0
		if isReached && !known(x.Args[i], place{from, len(f.Blocks[from].Code)}) {
			return false
		}
	}
	return true
}
