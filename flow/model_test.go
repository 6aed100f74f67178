package flow_test

import (
	"slices"

	"cupel/api"
)

// The model says what the chapter does, by definitions: it searches for sequences of blocks, and for places of the code, one by one.

// leads returns the blocks to which a block leads.
func leads(f api.IFunc, b int) []int {
	end := f.Blocks[b].End
	switch {
	case end.Op == api.TmJump || end.Op == api.TmBranch && end.To == end.Else:
		return []int{end.To}
	case end.Op == api.TmBranch:
		return []int{min(end.To, end.Else), max(end.To, end.Else)}
	}
	return nil
}

// sequence reports whether a sequence of blocks goes from one block to another one, each leading to the next one, none of them the block without.
func sequence(f api.IFunc, from, to, without int) bool {
	if from == without {
		return false
	}
	found := []int{from}
	for i := 0; i < len(found); i++ {
		for _, b := range leads(f, found[i]) {
			if b != without && !slices.Contains(found, b) {
				found = append(found, b)
			}
		}
	}
	return slices.Contains(found, to)
}

func modelReached(f api.IFunc, b int) bool { return sequence(f, 0, b, -1) }

func modelDominates(f api.IFunc, a, b int) bool {
	return modelReached(f, a) && modelReached(f, b) && !sequence(f, 0, b, a)
}

// choose returns the numbers from 0 to n - 1 that have a property.
func choose(n int, has func(i int) bool) []int {
	var list []int
	for i := range n {
		if has(i) {
			list = append(list, i)
		}
	}
	return list
}

// modelOrder goes depth first with a list of the blocks that have been entered and not left.
func modelOrder(f api.IFunc) []int {
	var order []int
	path, entered := []int{0}, map[int]bool{0: true}
	for len(path) > 0 {
		last := path[len(path)-1]
		next := slices.IndexFunc(leads(f, last), func(b int) bool { return !entered[b] })
		if next < 0 {
			order = append([]int{last}, order...)
			path = path[:len(path)-1]
			continue
		}
		b := leads(f, last)[next]
		entered[b] = true
		path = append(path, b)
	}
	return order
}

func modelIdom(f api.IFunc, b int, is func(a, b int) bool) int {
	if b == 0 {
		return -1
	}
	for a := range f.Blocks {
		if a != b && is(a, b) && !slices.ContainsFunc(choose(len(f.Blocks), func(c int) bool { return c != b && is(c, b) }), func(c int) bool { return !is(c, a) }) {
			return a
		}
	}
	return -2
}

func modelFront(f api.IFunc, a int, is func(a, b int) bool) []int {
	return choose(len(f.Blocks), func(b int) bool {
		led := slices.ContainsFunc(choose(len(f.Blocks), func(p int) bool { return is(a, p) }), func(p int) bool { return slices.Contains(leads(f, p), b) })
		return led && (a == b || !is(a, b))
	})
}

// dominance returns which blocks dominate which ones.
func dominance(f api.IFunc) func(a, b int) bool {
	var all [api.MaxIBlocks][api.MaxIBlocks]bool
	for a := range f.Blocks {
		for b := range f.Blocks {
			all[a][b] = modelDominates(f, a, b)
		}
	}
	return func(a, b int) bool { return all[a][b] }
}

func modelGraph(f api.IFunc) api.Graph {
	g := api.Graph{Order: modelOrder(f)}
	is := dominance(f)
	for b := range f.Blocks {
		g.Succs = append(g.Succs, leads(f, b))
		g.Preds = append(g.Preds, choose(len(f.Blocks), func(p int) bool { return slices.Contains(leads(f, p), b) }))
		g.Idom = append(g.Idom, modelIdom(f, b, is))
		g.Front = append(g.Front, modelFront(f, b, is))
	}
	return g
}

// modelLoops finds the loops, from the one with the most blocks on.
func modelLoops(f api.IFunc) []api.Loop {
	n := len(f.Blocks)
	is := dominance(f)
	var list []api.Loop
	for size := n; size > 0; size-- {
		for h := range n {
			l := api.Loop{Head: h, Parent: -1}
			l.Latches = choose(n, func(b int) bool { return is(h, b) && slices.Contains(leads(f, b), h) })
			l.Blocks = choose(n, func(b int) bool {
				return b == h || modelReached(f, b) && slices.ContainsFunc(l.Latches, func(latch int) bool { return sequence(f, b, latch, h) })
			})
			l.Exits = choose(n, func(b int) bool {
				return !slices.Contains(l.Blocks, b) && slices.ContainsFunc(l.Blocks, func(p int) bool { return slices.Contains(leads(f, p), b) })
			})
			if len(l.Latches) > 0 && len(l.Blocks) == size {
				list = append(list, l)
			}
		}
	}
	for i := range list {
		fewest := n + 1
		for j, l := range list {
			if j != i && slices.Contains(l.Blocks, list[i].Head) && len(l.Blocks) < fewest {
				list[i].Parent, fewest = j, len(l.Blocks)
			}
		}
	}
	return list
}

// readBy returns the operands that an instruction reads where it stands.
func readBy(x api.Instr) []api.Opd {
	switch x.Op {
	case api.IxCopy, api.IxLoad, api.IxPut, api.IxPrint:
		return []api.Opd{x.A}
	case api.IxBin, api.IxCheck, api.IxStore:
		return []api.Opd{x.A, x.B}
	case api.IxCall:
		return x.Args
	}
	return nil
}

// definedBy returns the register that an instruction defines, or -1.
func definedBy(x api.Instr) int {
	switch x.Op {
	case api.IxCopy, api.IxBin, api.IxLoad, api.IxGet, api.IxCall, api.IxPhi:
		return x.To
	}
	return -1
}

// search looks for a place that reads a register before anything defines it.
type search struct {
	f    api.IFunc
	r    int
	seen map[int]bool // the blocks that were entered
}

func (s search) has(list []api.Opd) bool {
	return slices.ContainsFunc(list, func(x api.Opd) bool { return x.Reg == s.r })
}

func phisOf(b api.Block) []api.Instr {
	var list []api.Instr
	for _, x := range b.Code {
		if x.Op == api.IxPhi {
			list = append(list, x)
		}
	}
	return list
}

// begins goes through a block from its beginning on.
func (s search) begins(b int) bool {
	block := s.f.Blocks[b]
	if s.seen[b] || slices.ContainsFunc(phisOf(block), func(x api.Instr) bool { return x.To == s.r }) {
		return false
	}
	s.seen[b] = true
	for _, x := range block.Code {
		if s.has(readBy(x)) {
			return true
		}
		if definedBy(x) == s.r {
			return false
		}
	}
	asks := block.End.Op == api.TmBranch || block.End.Op == api.TmReturn && s.f.Result
	return asks && s.has([]api.Opd{block.End.A}) || s.ends(b)
}

// ends goes on from the end of a block.
func (s search) ends(b int) bool {
	for _, to := range leads(s.f, b) {
		for _, x := range phisOf(s.f.Blocks[to]) {
			for i, from := range x.From {
				if from == b && x.Args[i].Reg == s.r {
					return true
				}
			}
		}
		if s.begins(to) {
			return true
		}
	}
	return false
}

func modelLive(f api.IFunc) (in, out [][]int) {
	for b := range f.Blocks {
		in = append(in, choose(f.Regs, func(r int) bool { return search{f, r, map[int]bool{}}.begins(b) }))
		out = append(out, choose(f.Regs, func(r int) bool { return search{f, r, map[int]bool{}}.ends(b) }))
	}
	return in, out
}
