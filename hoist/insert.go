package hoist

import (
	"cupel/api"
	"cupel/parts"
)

// insert makes a block ahead of a loop, to which the blocks outside of it lead instead of its head.
func (s *mover) insert(l loop, outside []int) {
	n := len(s.f.Blocks)
	for _, b := range outside {
		end := &s.f.Blocks[b].End
		for _, to := range []*int{&end.To, &end.Else} { // 0 where it is not used, which is no head
			if *to == l.head {
				*to = n
			}
		}
	}
	head := s.f.Blocks[l.head]
	ahead := api.Block{End: api.Term{Op: api.TmJump, To: l.head}}
	for i := range parts.Phis(head) {
		inner, outer := apart(head.Code[i], l)
		o := outer.Args[0]
		if len(outer.Args) > 1 {
			outer.To = s.f.Regs
			s.f.Regs++
			ahead.Code = append(ahead.Code, outer)
			o = api.Opd{Reg: outer.To}
		}
		inner.From, inner.Args = append(inner.From, n), append(inner.Args, o)
		head.Code[i] = inner
	}
	s.f.Blocks = append(s.f.Blocks, ahead)
}

// apart returns two phis: what one has that belongs to blocks of a loop, and what belongs to others.
func apart(x api.Instr, l loop) (inner, outer api.Instr) {
	inner, outer = api.Instr{Op: api.IxPhi, To: x.To}, api.Instr{Op: api.IxPhi}
	for i, b := range x.From {
		part := &outer
		if l.blocks[b] {
			part = &inner
		}
		part.From, part.Args = append(part.From, b), append(part.Args, x.Args[i])
	}
	return inner, outer
}
