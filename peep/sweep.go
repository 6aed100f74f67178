package peep

import (
	"slices"

	"cupel/api"
	"cupel/flow"
	"cupel/parts"
)

// result reports of which operation an operand is the result; the Kind is 0 if it is that of none.
type result func(o api.Opd) api.Instr

// sweeper goes through the blocks of a function.
type sweeper struct {
	f      *api.IFunc
	order  []int // the blocks that are reached
	rules  []rule
	keep   func(x api.Instr)
	of     result
	record parts.Record
}

// sweeperOf is for a function that may be changed.
func sweeperOf(m api.Module, k int, x api.Limit) *sweeper {
	g, _ := flow.Make(m, k)
	keep, of := results()
	s := sweeper{f: &m.Funcs[k], order: g.Order, rules: rules(x.Faults), keep: keep, of: of, record: parts.Bounded(api.PsPeep, k, x.Most)}
	for _, block := range s.f.Blocks {
		for _, x := range block.Code {
			s.keep(x)
		}
	}
	return &s
}

// results returns what keeps an instruction, in the place of the one that defined the same register, and what reports of which operation an operand is the result.
func results() (keep func(x api.Instr), of result) {
	made := map[int]api.Instr{}
	keep = func(x api.Instr) {
		if delete(made, x.To); x.Op == api.IxBin {
			made[x.To] = x
		}
	}
	return keep, func(o api.Opd) api.Instr { return made[o.Reg] }
}

// change applies the first rule that can be applied at a place, and reports whether it has.
func (s *sweeper) change(b, i int) bool {
	block := &s.f.Blocks[b]
	switch {
	case i == len(block.Code):
		return s.end(b)
	case block.Code[i].Op == api.IxBin:
		return s.operation(b, i)
	case block.Code[i].Op == api.IxCheck:
		return s.check(b, i)
	}
	return false
}

// operation applies the first rule of the table that can be applied to an operation.
func (s *sweeper) operation(b, i int) bool {
	x := &s.f.Blocks[b].Code[i]
	n := slices.IndexFunc(s.rules, func(r rule) bool { return r.isFor(*x, s.of) })
	if n < 0 || !s.record.Add(s.rules[n].number, b, i) {
		return false
	}
	y := s.rules[n].becomes(*x, s.of)
	y.To = x.To
	*x = y
	s.keep(y)
	return true
}

// check leaves out a check of what a mask keeps below its bound.
func (s *sweeper) check(b, i int) bool {
	code := &s.f.Blocks[b].Code
	x := (*code)[i]
	if !isMasked(x, s.of) || !s.record.Add(ruleMask, b, i) {
		return false
	}
	*code = slices.Delete(*code, i, i+1)
	return true
}

// end applies the first rule that can be applied to the end of a block.
func (s *sweeper) end(b int) bool {
	end := &s.f.Blocks[b].End
	number, other := simpler(*end, s.of)
	if number == 0 || !s.record.Add(number, b, -1) {
		return false
	}
	*end = other
	return true
}
