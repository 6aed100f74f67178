package copies

import (
	"iter"
	"slices"

	"cupel/api"
	"cupel/flow"
	"cupel/parts"
)

// place is that of an instruction, or of the end of a block, which is behind all of them.
type place struct{ block, index int }

// sweeper goes through the blocks of a function.
type sweeper struct {
	f                          *api.IFunc
	arrays                     []api.GArray // those of the module
	graph                      api.Graph
	minus, overStore, overCall bool // faults
	rules                      [6]rule
	copied                     map[int]api.Opd // what the registers are copies of that copies define
	record                     parts.Record
}

// sweeperOf is for a function that may be changed.
func sweeperOf(m api.Module, k int, x api.Limit) *sweeper {
	g, _ := flow.Make(m, k)
	s := sweeper{
		f:         &m.Funcs[k],
		arrays:    m.Arrays,
		graph:     g,
		minus:     slices.Contains(x.Faults, api.FtMinus),
		overStore: slices.Contains(x.Faults, api.FtOverStore),
		overCall:  slices.Contains(x.Faults, api.FtOverCall),
		rules:     rules(),
		copied:    map[int]api.Opd{},
		record:    parts.Bounded(api.PsCopies, k, x.Most),
	}
	for _, block := range s.f.Blocks {
		for _, x := range block.Code {
			s.note(x)
		}
	}
	return &s
}

// note keeps what an instruction copies, if it does.
func (s *sweeper) note(x api.Instr) {
	if x.Op == api.IxCopy {
		s.copied[x.To] = x.A
	}
}

// change applies the first rule that can be applied at a place, and reports whether it has.
func (s *sweeper) change(b, i int) bool {
	if i == len(s.code(b)) {
		return s.changeEnd(b)
	}
	at := place{b, i}
	for n, find := range s.rules {
		if apply := find(s, at); apply != nil {
			may := s.record.Add(n+1, b, i)
			if may {
				apply()
			}
			return may
		}
	}
	return false
}

// changeEnd does the same for the end of a block, where there is the rule of copies alone.
func (s *sweeper) changeEnd(b int) bool {
	for _, o := range parts.EndOperands(&s.f.Blocks[b].End, s.f.Result) {
		if of, is := s.copied[o.Reg]; is && s.record.Add(ruleCopy, b, -1) {
			*o = of
			return true
		}
	}
	return false
}

func (s *sweeper) code(b int) []api.Instr { return s.f.Blocks[b].Code }

func (s *sweeper) instr(at place) *api.Instr { return &s.code(at.block)[at.index] }

func (s *sweeper) isReached(b int) bool { return b == 0 || s.graph.Idom[b] >= 0 }

// before returns the instructions that come before a place in its block.
func (s *sweeper) before(at place) []api.Instr { return s.code(at.block)[:at.index] }

// above produces the instructions that are above a place, the nearest one first.
func (s *sweeper) above(at place) iter.Seq[api.Instr] {
	return func(yield func(api.Instr) bool) {
		b, list := at.block, s.before(at)
		for {
			for _, x := range slices.Backward(list) {
				if !yield(x) {
					return
				}
			}
			if b = s.graph.Idom[b]; b < 0 {
				return
			}
			list = s.code(b)
		}
	}
}
