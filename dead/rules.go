package dead

import "cupel/api"

// ruleBlocks is the number of the rule for a function as a whole.
const ruleBlocks = 5

// rule reports whether an instruction may be left out, which has others after it in its block.
type rule func(s *sweeper, x api.Instr, after []api.Instr) bool

// rules has those for instructions in order; the first one has the number 1.
func rules() []rule {
	return []rule{(*sweeper).isUnused, (*sweeper).isPassed, (*sweeper).isNeverRead, (*sweeper).isPutOver}
}

// isUnused: what the instruction defines is not used, and it cannot trap.
func (s *sweeper) isUnused(x api.Instr, _ []api.Instr) bool {
	switch x.Op {
	case api.IxCopy, api.IxLoad, api.IxGet, api.IxPhi:
		return !s.uses.has(x.To)
	case api.IxBin:
		return !s.uses.has(x.To) && !s.mayTrap(x)
	}
	return false
}

// mayTrap reports whether an operation divides by what may be 0.
func (s *sweeper) mayTrap(x api.Instr) bool {
	divides := x.Kind == api.IbDiv || x.Kind == api.IbRem
	return divides && !s.division && (x.B.Reg >= 0 || x.B.Imm == 0)
}

// isPassed: a check of constants that does not trap.
func (s *sweeper) isPassed(x api.Instr, _ []api.Instr) bool {
	return x.Op == api.IxCheck && x.A.Reg < 0 && x.B.Reg < 0 && x.A.Imm >= 0 && x.A.Imm < x.B.Imm
}

// isNeverRead: a store into an array of the function that nothing reads.
func (s *sweeper) isNeverRead(x api.Instr, _ []api.Instr) bool {
	return x.Op == api.IxStore && s.f.Arrays[x.Array].Kind == api.AyLocal && !s.reads.has(x.Array)
}

// isPutOver: a put into a cell that is put into again before anything can see it.
func (s *sweeper) isPutOver(x api.Instr, after []api.Instr) bool {
	if x.Op != api.IxPut {
		return false
	}
	for _, y := range after {
		switch {
		case y.Op == api.IxPut && y.Cell == x.Cell:
			return true
		case y.Op == api.IxGet && y.Cell == x.Cell && !s.overGet, y.Op == api.IxCall:
			return false
		}
	}
	return false
}
