package fold

import (
	"slices"

	"cupel/api"
	"cupel/irsem"
	"cupel/parts"
)

// place is that of an instruction, or of the end of a block, which is behind all of them.
type place struct{ block, index int }

// finder finds the facts about a function. What it has found only grows: a fact from nothing to constant to varying.
type finder struct {
	facts
	f                    api.IFunc
	equalLess, firstOnly bool // faults
	kinds                [api.IxPhi + 1]kind
	readers              map[int][]place // where registers are operands
	work                 []place         // to be looked at, perhaps once more
}

// find returns the least facts about a function.
func find(f api.IFunc, faults []int) facts {
	s := finder{
		facts:     facts{make([]fact, f.Regs), map[int]bool{}, map[edge]bool{}},
		f:         f,
		equalLess: slices.Contains(faults, api.FtEqualLess),
		firstOnly: slices.Contains(faults, api.FtFirstOnly),
		kinds:     kinds(),
		readers:   readers(f),
	}
	for r := range f.Params {
		s.regs[r].state = varying
	}
	s.enter(0)
	s.search()
	return s.facts
}

// readers returns where the registers of a function are operands.
func readers(f api.IFunc) map[int][]place {
	lists := map[int][]place{}
	add := func(operands []*api.Opd, at place) {
		for _, o := range operands {
			if o.Reg >= 0 {
				lists[o.Reg] = append(lists[o.Reg], at)
			}
		}
	}
	for b := range f.Blocks {
		block := &f.Blocks[b]
		for i := range block.Code {
			add(parts.Operands(&block.Code[i]), place{b, i})
		}
		add(parts.EndOperands(&block.End, f.Result), place{b, len(block.Code)})
	}
	return lists
}

// search looks at places until there is nothing to be found any more.
func (s *finder) search() {
work:
	for {
		switch at, some := s.next(); {
		case !some:
			break work
		case at.index == len(s.f.Blocks[at.block].Code):
			s.leave(at.block)
		default:
			s.define(at)
		}
	}
}

// next takes the next place of an executable block out of the work. Those of other blocks are looked at when these are entered.
func (s *finder) next() (at place, some bool) {
	for len(s.work) > 0 {
		last := len(s.work) - 1
		at, s.work = s.work[last], s.work[:last]
		if s.blocks[at.block] {
			return at, true
		}
	}
	return place{}, false
}

// enter makes a block executable. If it was, its phis have other edges now.
func (s *finder) enter(b int) {
	s.blocks[b] = true
	for i := range len(s.f.Blocks[b].Code) + 1 {
		s.work = append(s.work, place{b, i})
	}
}

// leave makes the edges executable on which a block is left.
func (s *finder) leave(b int) {
	end := s.f.Blocks[b].End
	targets := parts.Targets(end)
	if end.Op == api.TmBranch {
		switch by := s.of(end.A); by.state {
		case nothing:
			return
		case constant:
			targets = []int{way(end, by.value)}
		}
	}
	for _, to := range targets {
		if e := (edge{b, to}); !s.edges[e] {
			s.edges[e] = true
			s.enter(to)
		}
	}
}

// define finds the fact of what an instruction defines, if it does. What reads that is looked at if the fact is a new one.
func (s *finder) define(at place) {
	x := s.f.Blocks[at.block].Code[at.index]
	if x.To < 0 {
		return
	}
	if is := s.kinds[x.Op].fact(s, x, at.block); s.regs[x.To] != is {
		s.regs[x.To] = is
		s.work = append(s.work, s.readers[x.To]...)
	}
}

// kind says of an instruction in a block which fact has what it defines.
type kind struct {
	fact func(s *finder, x api.Instr, b int) fact
}

// kinds has those kinds of instructions that define a register.
func kinds() [api.IxPhi + 1]kind {
	varies := func(*finder, api.Instr, int) fact { return fact{state: varying} }
	return [...]kind{
		api.IxCopy: {func(s *finder, x api.Instr, _ int) fact { return s.of(x.A) }},
		api.IxBin:  {func(s *finder, x api.Instr, _ int) fact { return s.operate(x.Kind, s.of(x.A), s.of(x.B)) }},
		api.IxLoad: {varies},
		api.IxGet:  {varies},
		api.IxCall: {varies},
		api.IxPhi:  {(*finder).meet},
	}
}

func (s *finder) operate(kind int, a, b fact) fact {
	switch {
	case a.state == varying || b.state == varying:
		return fact{state: varying}
	case a.state == nothing || b.state == nothing:
		return fact{}
	case s.equalLess && kind == api.IbLt && a == b:
		return fact{constant, 1}
	}
	v, trap, _ := irsem.Bin(kind, a.value, b.value)
	if trap {
		return fact{state: varying}
	}
	return fact{constant, v}
}

// meet returns the fact of a phi.
func (s *finder) meet(x api.Instr, b int) fact {
	if s.firstOnly {
		return s.of(x.Args[0]) // the block was entered, so there is one
	}
	var all fact
	for i, from := range x.From {
		is := s.of(x.Args[i])
		switch {
		case !s.edges[edge{from, b}] || is.state == nothing:
		case all.state == nothing:
			all = is
		case all != is:
			return fact{state: varying}
		}
	}
	return all
}
