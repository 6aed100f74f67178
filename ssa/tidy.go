package ssa

import (
	"slices"

	"cupel/api"
	"cupel/parts"
)

// tidy leaves out blocks that are not reached, joins blocks, and numbers blocks and registers anew.
func tidy(f *api.IFunc) {
	parts.Arrange(f, slices.Sorted(slices.Values(entered(*f))))
	for b, ok := joint(*f); ok; b, ok = joint(*f) {
		join(f, b)
	}
	parts.Arrange(f, entered(*f))
	number(f)
}

// entered returns the blocks that are reached, in the order in which they are entered, depth first.
func entered(f api.IFunc) []int {
	var order []int
	seen := map[int]bool{}
	var enter func(b int)
	enter = func(b int) {
		seen[b] = true
		order = append(order, b)
		for _, to := range parts.Targets(f.Blocks[b].End) {
			if !seen[to] {
				enter(to)
			}
		}
	}
	enter(0)
	return order
}

// joint returns the first block that can be joined with the one to which it jumps.
func joint(f api.IFunc) (int, bool) {
	preds := map[int][]int{}
	for b, block := range f.Blocks {
		for _, to := range parts.Targets(block.End) {
			preds[to] = append(preds[to], b)
		}
	}
	for b, block := range f.Blocks {
		to := block.End.To
		if block.End.Op == api.TmJump && to != b && len(preds[to]) == 1 && !isKnotted(f.Blocks[to]) {
			return b, true
		}
	}
	return 0, false
}

// isKnotted reports whether a phi of a block has as an operand what an earlier one defines, so that they cannot become copies in order.
func isKnotted(b api.Block) bool {
	defined := map[int]bool{}
	for _, x := range b.Code[:parts.Phis(b)] {
		for _, o := range x.Args {
			if defined[o.Reg] {
				return true
			}
		}
		defined[x.To] = true
	}
	return false
}

// join puts the block to which another one jumps behind it.
func join(f *api.IFunc, b int) {
	gone := f.Blocks[b].End.To
	block, next := &f.Blocks[b], f.Blocks[gone]
	count := parts.Phis(next)
	for _, x := range next.Code[:count] {
		block.Code = append(block.Code, api.Instr{Op: api.IxCopy, To: x.To, A: x.Args[0]})
	}
	block.Code = append(block.Code, next.Code[count:]...)
	block.End = next.End
	var order []int
	for c, other := range f.Blocks {
		for _, x := range other.Code[:parts.Phis(other)] {
			if i := slices.Index(x.From, gone); i >= 0 {
				x.From[i] = b
			}
		}
		if c != gone {
			order = append(order, c)
		}
	}
	parts.Arrange(f, order)
}

// number gives registers numbers in the order in which they occur first.
func number(f *api.IFunc) {
	numbers := map[int]int{-1: -1}
	next := 0
	of := func(r int) int {
		n, known := numbers[r]
		if !known {
			n = next
			numbers[r] = n
			next++
		}
		return n
	}
	for r := range f.Params {
		of(r)
	}
	for b := range f.Blocks {
		block := &f.Blocks[b]
		for i := range block.Code {
			x := &block.Code[i]
			renumber(parts.Operands(x), of)
			x.To = of(x.To)
		}
		renumber(parts.EndOperands(&block.End, f.Result), of)
	}
	f.Regs = next
}

func renumber(operands []*api.Opd, of func(r int) int) {
	for _, o := range operands {
		o.Reg = of(o.Reg)
	}
}
