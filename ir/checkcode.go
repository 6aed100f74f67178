package ir

import (
	"slices"

	"cupel/api"
	"cupel/texts"
)

// checker looks at the blocks of a function of a module whose functions all have valid heads.
type checker struct {
	m api.Module
	f api.IFunc
}

func (c checker) areEnds() bool {
	for _, b := range c.f.Blocks {
		if !c.isEnd(b.End) {
			return false
		}
	}
	return true
}

func (c checker) isEnd(t api.Term) bool {
	switch {
	case t.Op == api.TmJump:
		return c.isTarget(t.To) && t == api.Term{Op: t.Op, To: t.To}
	case t.Op == api.TmBranch:
		return c.isOpd(t.A) && c.isTarget(t.To) && c.isTarget(t.Else)
	case t.Op == api.TmReturn && c.f.Result:
		return c.isOpd(t.A) && t == api.Term{Op: t.Op, A: t.A}
	case t.Op == api.TmReturn || t.Op == api.TmTrap:
		return t == api.Term{Op: t.Op}
	}
	return false
}

// isTarget reports whether an end may lead to a block: none leads to the block 0.
func (c checker) isTarget(block int) bool { return block > 0 && block < len(c.f.Blocks) }

func (c checker) isReg(reg int) bool { return isIndex(reg, c.f.Regs) }

func (c checker) isOpd(o api.Opd) bool {
	return o.Reg == -1 || c.isReg(o.Reg) && o.Imm == 0
}

// isCode is asked only if the ends are valid.
func (c checker) isCode() bool {
	entries := c.entries()
	for i, b := range c.f.Blocks {
		phis := i > 0 // may there still be phis?
		for _, x := range b.Code {
			phis = phis && x.Op == api.IxPhi
			if x.Op == api.IxPhi && !(phis && slices.Equal(x.From, entries[i])) || !c.isInstr(x) {
				return false
			}
		}
	}
	return true
}

// entries returns for each block those from which an end leads to it, ascending.
func (c checker) entries() [][]int {
	lists := make([][]int, len(c.f.Blocks))
	for i, b := range c.f.Blocks {
		switch b.End.Op {
		case api.TmJump:
			lists[b.End.To] = append(lists[b.End.To], i)
		case api.TmBranch:
			lists[b.End.To] = append(lists[b.End.To], i)
			if b.End.Else != b.End.To {
				lists[b.End.Else] = append(lists[b.End.Else], i)
			}
		}
	}
	return lists
}

func (c checker) isInstr(x api.Instr) bool {
	if !isOp(x.Op) || hasStray(x) {
		return false
	}
	s := shapes[x.Op]
	switch {
	case s.kind && !texts.IsOperation(x.Kind):
		return false
	case s.to && !c.isReg(x.To) && (x.Op != api.IxCall || x.To != -1):
		return false
	case s.a && !c.isOpd(x.A) || s.b && !c.isOpd(x.B):
		return false
	case s.array && !isIndex(x.Array, len(c.f.Arrays)):
		return false
	case s.cell && !isIndex(x.Cell, len(c.m.Cells)):
		return false
	case s.call && !c.isCall(x) || s.from && len(x.Args) != len(x.From):
		return false
	}
	return !slices.ContainsFunc(x.Args, func(o api.Opd) bool { return !c.isOpd(o) })
}

// hasStray reports whether a field is set that the operation does not use.
func hasStray(x api.Instr) bool {
	s, none := shapes[x.Op], api.Opd{}
	return !s.kind && x.Kind != 0 || !s.to && x.To != -1 ||
		!s.a && x.A != none || !s.b && x.B != none ||
		!s.array && x.Array != 0 || !s.cell && x.Cell != 0 ||
		!s.call && (x.Func != 0 || len(x.Arrays) > 0) ||
		!s.args && len(x.Args) > 0 || !s.from && len(x.From) > 0
}

func (c checker) isCall(x api.Instr) bool {
	if !isIndex(x.Func, len(c.m.Funcs)) {
		return false
	}
	callee := c.m.Funcs[x.Func]
	if len(x.Args) != callee.Params || x.To != -1 && !callee.Result {
		return false
	}
	return c.areGiven(x.Arrays, paramArrays(callee))
}

// areGiven reports whether arrays of the function may be given for those that are wanted.
func (c checker) areGiven(arrays []int, wanted []api.Array) bool {
	if len(arrays) != len(wanted) {
		return false
	}
	for i, a := range arrays {
		if !isIndex(a, len(c.f.Arrays)) || slices.Contains(arrays[:i], a) {
			return false
		}
		length, small := c.sizeOf(c.f.Arrays[a])
		if length != wanted[i].Len || small != wanted[i].Small {
			return false
		}
	}
	return true
}

func (c checker) sizeOf(a api.Array) (length int, small bool) {
	if a.Kind == api.AyGlobal {
		g := c.m.Arrays[a.Global]
		return g.Len, g.Small
	}
	return a.Len, a.Small
}
