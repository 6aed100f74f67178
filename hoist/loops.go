package hoist

import (
	"cmp"
	"slices"

	"cupel/api"
	"cupel/flow"
)

// loop is a loop of a function, and what its instructions write.
type loop struct {
	head, size int
	blocks     [api.MaxIBlocks]bool // those that belong to it
	calls      bool                 // which may write anything
	arrays     [api.MaxIArrays]bool // those that are stored into
	cells      [api.MaxICells]bool  // those that are put into
}

// loopOf returns a loop of these blocks of a function.
func loopOf(f api.IFunc, head int, blocks []int) loop {
	l := loop{head: head, size: len(blocks)}
	for _, b := range blocks {
		l.blocks[b] = true
		for _, x := range f.Blocks[b].Code {
			switch x.Op {
			case api.IxCall:
				l.calls = true
			case api.IxStore:
				l.arrays[x.Array] = true
			case api.IxPut:
				l.cells[x.Cell] = true
			}
		}
	}
	return l
}

// look finds the loops and the order of the blocks, and where registers are defined. The error is that of a function that has become too long.
func (s *mover) look() api.Errno {
	g, e := flow.Make(s.m, s.k)
	if e != api.OK {
		return e
	}
	list, _ := flow.Loops(s.m, s.k)
	s.graph, s.loops, s.homes = g, nil, map[int]int{}
	for _, l := range list {
		s.loops = append(s.loops, loopOf(*s.f, l.Head, l.Blocks))
	}
	// Of loops of one size, the one with the lower head is first already.
	slices.SortStableFunc(s.loops, func(a, b loop) int { return cmp.Compare(a.size, b.size) })
	for b, block := range s.f.Blocks {
		for _, x := range block.Code {
			if x.To >= 0 {
				s.homes[x.To] = b
			}
		}
	}
	return api.OK
}

// outside returns the blocks outside of a loop that lead to its head.
func (s *mover) outside(l loop) []int {
	return slices.DeleteFunc(slices.Clone(s.graph.Preds[l.head]), func(b int) bool { return l.blocks[b] })
}

// isDefinedIn reports whether a register is defined in a loop.
func (s *mover) isDefinedIn(l loop, r int) bool {
	home, is := s.homes[r]
	return is && l.blocks[home]
}
