package dead

import (
	"slices"

	"cupel/api"
	"cupel/flow"
	"cupel/ir"
	"cupel/parts"
)

// sweeper goes through the blocks of a function, backwards.
type sweeper struct {
	f                 *api.IFunc
	reached           []int // the blocks that are reached, ascending
	division, overGet bool  // faults
	rules             []rule
	uses              counter // of registers, by instructions and ends
	reads             counter // of arrays, by loads and calls
	record            parts.Record
}

// sweeperOf is for a function that may be changed.
func sweeperOf(m api.Module, k int, x api.Limit) *sweeper {
	g, _ := flow.Make(m, k)
	s := sweeper{
		f:        &m.Funcs[k],
		reached:  slices.Sorted(slices.Values(g.Order)),
		division: slices.Contains(x.Faults, api.FtDivision),
		overGet:  slices.Contains(x.Faults, api.FtOverGet),
		rules:    rules(),
		record:   parts.Record{Pass: api.PsDead, Func: k, Most: x.Most},
	}
	s.count()
	return &s
}

// count counts what the function uses.
func (s *sweeper) count() {
	s.uses, s.reads = counter{}, counter{}
	for b := range s.f.Blocks {
		block := &s.f.Blocks[b]
		for _, x := range block.Code {
			regs, _ := ir.Uses(x)
			s.uses.add(regs)
			s.reads.add(arraysRead(x))
		}
		for _, o := range parts.EndOperands(&block.End, s.f.Result) {
			if o.Reg >= 0 {
				s.uses.add([]int{o.Reg})
			}
		}
	}
}

// arraysRead returns the arrays whose elements an instruction may read.
func arraysRead(x api.Instr) []int {
	switch x.Op {
	case api.IxLoad:
		return []int{x.Array}
	case api.IxCall:
		return x.Arrays
	}
	return nil
}

// sweep goes through the function once, and reports whether it has made an application.
func (s *sweeper) sweep() bool {
	before := len(s.record.List)
	for b := range slices.Backward(s.f.Blocks) {
		for i := range slices.Backward(s.f.Blocks[b].Code) {
			s.instr(b, i)
		}
	}
	s.blocks()
	return len(s.record.List) > before
}

// instr leaves out an instruction if a rule can be applied to it.
func (s *sweeper) instr(b, i int) {
	code := s.f.Blocks[b].Code
	x := code[i]
	is := func(r rule) bool { return r(s, x, code[i+1:]) }
	n := slices.IndexFunc(s.rules, is)
	if n < 0 || !s.record.Add(n+1, b, i) {
		return
	}
	regs, _ := ir.Uses(x)
	s.uses.remove(regs)
	s.reads.remove(arraysRead(x))
	s.f.Blocks[b].Code = slices.Delete(code, i, i+1)
}

// blocks leaves out the blocks that are not reached, once: no rule changes which ones are.
func (s *sweeper) blocks() {
	if len(s.f.Blocks) == len(s.reached) {
		return
	}
	first := 0
	for first < len(s.reached) && s.reached[first] == first {
		first++
	}
	if s.record.Add(ruleBlocks, first, -1) {
		parts.Arrange(s.f, s.reached)
		s.count()
	}
}
