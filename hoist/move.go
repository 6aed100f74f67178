package hoist

import (
	"slices"

	"cupel/api"
	"cupel/ir"
	"cupel/parts"
)

// The rules, by their numbers.
const (
	ruleAhead = 1
	ruleMove  = 2
)

// mover moves instructions of a function out of its loops.
type mover struct {
	m             api.Module
	k             int
	f             *api.IFunc
	stores, traps bool // faults
	graph         api.Graph
	loops         []loop      // those to be tried first come first
	homes         map[int]int // the blocks in which registers are defined
	record        parts.Record
}

// place is where an instruction is.
type place struct{ block, index int }

// moverOf is for a function that may be changed.
func moverOf(m api.Module, k int, x api.Limit) *mover {
	return &mover{
		m:      m,
		k:      k,
		f:      &m.Funcs[k],
		stores: slices.Contains(x.Faults, api.FtStores),
		traps:  slices.Contains(x.Faults, api.FtTrap),
		record: parts.Record{Pass: api.PsHoist, Func: k, Most: x.Most},
	}
}

// first returns the first one of a list in which something is found, and what that is.
func first[T, R any](list []T, find func(x T) (R, bool)) (in T, what R, found bool) {
	for _, x := range list {
		if y, is := find(x); is {
			return x, y, true
		}
	}
	return in, what, false
}

// step makes the next application, if there is one that may be made, and reports whether it has.
func (s *mover) step() (bool, api.Errno) {
	l, at, found := first(s.loops, func(l loop) (place, bool) { return s.movable(l) })
	if !found {
		return false, api.OK
	}
	outside := s.outside(l)
	switch {
	case len(outside) == 1 && s.f.Blocks[outside[0]].End.Op == api.TmJump:
		return s.move(at, outside[0]), api.OK
	case !s.record.Add(ruleAhead, l.head, -1):
		return false, api.OK
	}
	s.insert(l, outside)
	return true, s.look()
}

// movable returns where the first instruction is that can be moved out of a loop.
func (s *mover) movable(l loop) (place, bool) {
	b, i, found := first(s.graph.Order, func(b int) (int, bool) {
		if !l.blocks[b] {
			return 0, false
		}
		i := slices.IndexFunc(s.f.Blocks[b].Code, func(x api.Instr) bool { return s.canMove(x, l) })
		return i, i >= 0
	})
	return place{b, i}, found
}

// canMove reports whether an instruction of a loop can be moved out of it.
func (s *mover) canMove(x api.Instr, l loop) bool {
	if !s.isSteady(x, l) {
		return false
	}
	regs, _ := ir.Uses(x)
	return !slices.ContainsFunc(regs, func(r int) bool { return s.isDefinedIn(l, r) })
}

// isSteady reports whether an instruction never traps, writes nothing, and has the same result each time that its operands are the same in the loop.
func (s *mover) isSteady(x api.Instr, l loop) bool {
	switch x.Op {
	case api.IxCopy:
		return true
	case api.IxBin:
		divides := x.Kind == api.IbDiv || x.Kind == api.IbRem
		return s.traps || !divides || x.B.Reg < 0 && x.B.Imm != 0
	case api.IxLoad:
		return !l.calls && (s.stores || !l.arrays[x.Array])
	case api.IxGet:
		return !l.calls && !l.cells[x.Cell]
	}
	return false
}

// move moves an instruction to the end of a block. What loops there are, and what they write, stays the same.
func (s *mover) move(at place, to int) bool {
	if !s.record.Add(ruleMove, at.block, at.index) {
		return false
	}
	code, ahead := &s.f.Blocks[at.block].Code, &s.f.Blocks[to].Code
	x := (*code)[at.index]
	*code = slices.Delete(*code, at.index, at.index+1)
	*ahead = append(*ahead, x)
	s.homes[x.To] = to
	return true
}
